import Derived.Test.YtikdidfgdiafoabDoorGMeanAll
import Derived.Test.YtikdidfgdiafoabDoorGVal2
import Derived.Test.YtikdidfgdiafoabDoorGOneC
import Derived.Test.YtikdidfgdiafoabDoorGNumber
import Derived.WalkSmall
namespace Go.Proofs.YtikdidfgdiafoabDoor
open Go.ChangeShapes Go.WideShapes Go.ChangeAt Go.RowKit

set_option maxRecDepth 20000 in
set_option maxHeartbeats 4000000 in
theorem one_4 (w0 w : World) (rb vb B vc : Nat) (iv pv : Value) (s : Ms) (at_ : Nat) (hst : s.steps < 20000) (h : Rn w rb vb B vc 53 iv (.int .i64 (-1)) pv s) (hrb : w0.heap.size ≤ rb) (hvb : w0.heap.size ≤ vb) (hB0 : Below w0.heap.size w0 w)
    (n ek en ck ak an bk bn : Int) (ead aad bad yad lad : Option Addr) (em ec am ac bm bc yc lc : Nat) (b l : List St) (hy : St.Sl w0 b (.slice yad b.length yc)) (hN : St.bulkAll b ≤ 1048576) (hat : at_ + 1 + St.bulkAll b + St.bulkAll l ≤ 2097152) (is : List Int) (N m : Nat) (hnm : n = m) (hm : m ≤ 1000) (hA : AllOk w0 is iv N) (hbN : St.bulkAll b ≤ N) (hok : St.OkAll b) (hp : s.puts.length ≤ s.steps) :
    Calls Tryd.prog 33 #[.pointer (some ⟨rb, 0, none⟩), .agg #[.int .i64 4, .int .i64 n, .int .i64 ek, .int .i64 en, .slice ead em ec, .int .i64 ck, .int .i64 ak, .int .i64 an, .slice aad am ac, .int .i64 bk, .int .i64 bn, .slice bad bm bc, .slice yad b.length yc, .slice lad l.length lc], .int .i64 at_] w
      fun r w' => r = .returned (.tuple #[]) ∧ ∃ pv', Rn w' rb vb B vc 53 iv (.int .i64 (badOf (again (fun _ => true) (fun s => St.runAll is b (at_ + 1) s) m { s with steps := s.steps + 1 }).2)) pv' (again (fun _ => true) (fun s => St.runAll is b (at_ + 1) s) m { s with steps := s.steps + 1 }).1 ∧ RR rb vb w w' pv pv' := by
  subst hnm
  obtain ⟨c0, c1, c2, c3, c4, cf, cl⟩ := h.cells
  have hd : decide ((20000 : Int) ≤ (s.steps : Int)) = false := decide_eq_false (by omega)
  have HE : Hid (_ ∧ _) := h.entered (s.steps + 1) (.cells #[.int .i64 4, .int .i64 m, .int .i64 ek, .int .i64 en, .slice ead em ec, .int .i64 ck, .int .i64 ak, .int .i64 an, .slice aad am ac, .int .i64 bk, .int .i64 bn, .slice bad bm bc, .slice yad b.length yc, .slice lad l.length lc] 61)
  have HL : Hid (Below w0.heap.size w0 _) := HE.out.2.low h hrb hvb hB0
  have HQ : Hid (copyIs ((w.setCell ⟨rb, 2, none⟩ (.int .i64 (s.steps + 1 : Nat))).alloc (.cells #[.int .i64 4, .int .i64 m, .int .i64 ek, .int .i64 en, .slice ead em ec, .int .i64 ck, .int .i64 ak, .int .i64 an, .slice aad am ac, .int .i64 bk, .int .i64 bn, .slice bad bm bc, .slice yad b.length yc, .slice lad l.length lc] 61)) w.heap.size (.int .i64 4) (.int .i64 m) (.int .i64 ek) (.int .i64 en) (.slice ead em ec) (.int .i64 ck) (.int .i64 ak) (.int .i64 an) (.slice aad am ac) (.int .i64 bk) (.int .i64 bn) (.slice bad bm bc) (.slice yad b.length yc) (.slice lad l.length lc)) := by
    have := heap_alloc_new (w.setCell ⟨rb, 2, none⟩ (.int .i64 (s.steps + 1 : Nat))) (.cells #[.int .i64 4, .int .i64 m, .int .i64 ek, .int .i64 en, .slice ead em ec, .int .i64 ck, .int .i64 ak, .int .i64 an, .slice aad am ac, .int .i64 bk, .int .i64 bn, .slice bad bm bc, .slice yad b.length yc, .slice lad l.length lc] 61)
    rw [set_size] at this
    exact this
  have hcnt := St.countAll_le b
  have HY : Hid (St.Sl w0 b (.slice yad b.length yc) ∧ St.OkAll b) := ⟨hy, hok⟩
  have HA : Hid (AllOk w0 is iv N) := hA
  have HNQ : Hid (w.heap.size ≠ rb ∧ w.heap.size ≠ vb ∧ some w.heap.size ≠ pv.ownBlock) := ⟨by omega, by have := h.vcells.2.2; omega, fun e => by have := (h.own_lt _ e.symm).2; omega⟩
  clear h hB0 hy hok hA
  go_enter Tryd.func33, Tryd.ntmps33
  go_wp2_with (go_at_call 16; refine (Size_any 1048577 b _ _ (by omega) (by omega) (HY.out.1.below (HL.out))).mono ?_; rintro r w4 ⟨rfl, hb4⟩; have HB4 : Hid _ := hb4; obtain ⟨d0, d1, d2, d3, d4, d5, d6, d7, d8, d9, d10, d11, d12, d13, -⟩ := copyIs.cell ((hb4.block _ HQ.out.lt).trans HQ.out); have hql := World.block_lt_of_cell? _ _ d0; have HC4 : Hid (_ ∧ Below w0.heap.size w0 w4) := ⟨HE.out.1.below hb4, HL.out.trans (hb4.mono HL.out.size)⟩; clear hb4)
  have HD : Hid (w4.cell? ⟨w.heap.size, 0, none⟩ = some (.int .i64 4) ∧ w4.cell? ⟨w.heap.size, 1, none⟩ = some (.int .i64 m) ∧ w4.cell? ⟨w.heap.size, 5, none⟩ = some (.int .i64 ck) ∧ w4.cell? ⟨w.heap.size, 6, none⟩ = some (.int .i64 ak) ∧ w4.cell? ⟨w.heap.size, 7, none⟩ = some (.int .i64 an) ∧ w4.cell? ⟨w.heap.size, 8, none⟩ = some (.slice aad am ac) ∧ w4.cell? ⟨w.heap.size, 9, none⟩ = some (.int .i64 bk) ∧ w4.cell? ⟨w.heap.size, 10, none⟩ = some (.int .i64 bn) ∧ w4.cell? ⟨w.heap.size, 11, none⟩ = some (.slice bad bm bc) ∧ w4.cell? ⟨w.heap.size, 12, none⟩ = some (.slice yad b.length yc)) := ⟨d0, d1, d5, d6, d7, d8, d9, d10, d11, d12⟩
  clear d0 d1 d2 d3 d4 d5 d6 d7 d8 d9 d10 d11 d12 d13 c0 c1 c2 c3 c4 cf
  go_loopw [7] (fun x wr => ∃ (j : Nat) (pv' : Value) (r : Ms × Option Nat), j ≤ m ∧ x = .int .i64 j ∧ Rn wr rb vb B vc 53 iv (.int .i64 (badOf r.2)) pv' r.1 ∧ RR rb vb w4 wr pv pv' ∧ r.1.steps ≤ 20000 ∧ r.1.puts.length ≤ r.1.steps ∧ loopRest (fun _ => true) (fun s => St.runAll is b (at_ + 1) s) (m - j) r = again (fun _ => true) (fun s => St.runAll is b (at_ + 1) s) m { s with steps := s.steps + 1 }) (fun x _ => m - (intOf x).toNat)
  case atStart => exact ⟨0, pv, ({ s with steps := s.steps + 1 }, none), Nat.zero_le _, rfl, HC4.out.1, RR.refl _ _ _ _, by simp only; omega, by simp only; omega, rfl⟩
  case round =>
    obtain ⟨j, pv', ⟨s', z⟩, hj, rfl, hk, hrr, hst', hp', hrest⟩ := hrel
    simp only at hk hst' hp'
    obtain ⟨d0, d1, d5, d6, d7, d8, d9, d10, d11, d12⟩ := HD.out
    have g0 := hrr.cell HNQ.out.1 HNQ.out.2.1 HNQ.out.2.2 d0
    have g1 := hrr.cell HNQ.out.1 HNQ.out.2.1 HNQ.out.2.2 d1
    have g5 := hrr.cell HNQ.out.1 HNQ.out.2.1 HNQ.out.2.2 d5
    have g6 := hrr.cell HNQ.out.1 HNQ.out.2.1 HNQ.out.2.2 d6
    have g7 := hrr.cell HNQ.out.1 HNQ.out.2.1 HNQ.out.2.2 d7
    have g8 := hrr.cell HNQ.out.1 HNQ.out.2.1 HNQ.out.2.2 d8
    have g9 := hrr.cell HNQ.out.1 HNQ.out.2.1 HNQ.out.2.2 d9
    have g10 := hrr.cell HNQ.out.1 HNQ.out.2.1 HNQ.out.2.2 d10
    have g11 := hrr.cell HNQ.out.1 HNQ.out.2.1 HNQ.out.2.2 d11
    have g12 := hrr.cell HNQ.out.1 HNQ.out.2.1 HNQ.out.2.2 d12
    have kb := hk.cells.2.2.2.2.1
    have hlow := hrr.low HC4.out.1 hrb hvb HC4.out.2
    have HI : Hid (Rn wr rb vb B vc 53 iv (.int .i64 (badOf z)) pv' s' ∧ RR rb vb w4 wr pv pv' ∧ Below w0.heap.size w0 wr ∧ loopRest (fun _ => true) (fun s => St.runAll is b (at_ + 1) s) (m - j) (s', z) = again (fun _ => true) (fun s => St.runAll is b (at_ + 1) s) m { s with steps := s.steps + 1 }) := ⟨hk, hrr, hlow, hrest⟩
    clear d0 d1 d5 d6 d7 d8 d9 d10 d11 d12 hk hrr hlow hrest
    have fin : ∀ w9, Below wr.heap.size wr w9 → loopRest (fun _ => true) (fun s => St.runAll is b (at_ + 1) s) (m - j) (s', z) = (s', z) → ∃ pv'', Rn w9 rb vb B vc 53 iv (.int .i64 (badOf (again (fun _ => true) (fun s => St.runAll is b (at_ + 1) s) m { s with steps := s.steps + 1 }).2)) pv'' (again (fun _ => true) (fun s => St.runAll is b (at_ + 1) s) m { s with steps := s.steps + 1 }).1 ∧ RR rb vb w w9 pv pv'' := by
      intro w9 hb9 hE
      rw [← HI.out.2.2.2, hE]
      exact ⟨pv', HI.out.1.below hb9, HE.out.2.trans ((RR.of_below HB4.out).trans (HI.out.2.1.trans (RR.of_below hb9)))⟩
    have FIN : Hid _ := fin
    clear fin
    by_cases hlt : j < m
    · have hdj : decide ((j : Int) < (m : Int)) = true := decide_eq_true (by omega)
      cases z with
      | some zz =>
        have hdz : decide ((zz : Int) < 0) = false := decide_eq_false (by omega)
        have kb' : wr.cell? ⟨rb, 4, none⟩ = some (.int .i64 (zz : Int)) := kb
        clear kb
        go_wp2_with fail
        go_end0
        exact ⟨rfl, FIN.out _ (Below.refl _ _) rfl⟩
      | none =>
        have kb' : wr.cell? ⟨rb, 4, none⟩ = some (.int .i64 (-1)) := kb
        clear kb
        go_wp2_with (go_at_call 23; refine (HA.out b _ rb vb B vc pv' _ s' (at_ + 1) hbN HY.out.2 hrb hvb HI.out.2.2.1 HY.out.1 HI.out.1 hst' hp' (by omega)).mono ?_; rintro r w5 ⟨rfl, pv5, hk5, hr5⟩; have H5 : Hid (_ ∧ _) := ⟨hk5, hr5⟩; clear hk5 hr5)
        go_roundw
        case rel =>
          have hkp := St.runAll_keep is b (at_ + 1) s' HI.out.1.vars.1
          refine ⟨j + 1, pv5, St.runAll is b (at_ + 1) s', by omega, by go_num, H5.out.1, HI.out.2.1.trans H5.out.2, hkp.2.1 hst', St.runAll_puts is b _ _ hp', ?_⟩
          rw [← HI.out.2.2.2, show m - j = (m - (j + 1)) + 1 by omega]
          exact (loopRest_step (rfl)).symm
        case measure => simp [intOf]; omega
    · have hje : j = m := by omega
      subst hje
      have hdj : decide ((j : Int) < (j : Int)) = false := by simp
      clear kb
      go_wp2_with fail
      go_end0
      exact ⟨rfl, FIN.out _ (Below.refl _ _) (by rw [Nat.sub_self]; exact loopRest_zero _)⟩

set_option maxRecDepth 20000 in
set_option maxHeartbeats 4000000 in
theorem one_5 (w0 w : World) (rb vb B vc : Nat) (iv pv : Value) (s : Ms) (at_ : Nat) (hst : s.steps < 20000) (h : Rn w rb vb B vc 53 iv (.int .i64 (-1)) pv s) (hrb : w0.heap.size ≤ rb) (hvb : w0.heap.size ≤ vb) (hB0 : Below w0.heap.size w0 w)
    (n ek en ck ak an bk bn : Int) (ead aad bad yad lad : Option Addr) (em ec am ac bm bc yc lc : Nat) (b l : List St) (hy : St.Sl w0 b (.slice yad b.length yc)) (hN : St.bulkAll b ≤ 1048576) (hat : at_ + 1 + St.bulkAll b + St.bulkAll l ≤ 2097152) (is : List Int) (N m : Nat) (hnm : n = m) (hm : m ≤ 1000) (hA : AllOk w0 is iv N) (hbN : St.bulkAll b ≤ N) (hok : St.OkAll b) (hp : s.puts.length ≤ s.steps) (ca cb : Ex) (hck : 1 ≤ ck ∧ ck ≤ 4) (hna : ca.nodes ≤ 1048576) (hnb : cb.nodes ≤ 1048576) (hoka : ca.Ok) (hokb : cb.Ok) (hi : InsIs w0 iv is) (hca : ca.In w0 (.agg #[.int .i64 ak, .int .i64 an, .slice aad am ac])) (hcb : cb.In w0 (.agg #[.int .i64 bk, .int .i64 bn, .slice bad bm bc])) :
    Calls Tryd.prog 33 #[.pointer (some ⟨rb, 0, none⟩), .agg #[.int .i64 5, .int .i64 n, .int .i64 ek, .int .i64 en, .slice ead em ec, .int .i64 ck, .int .i64 ak, .int .i64 an, .slice aad am ac, .int .i64 bk, .int .i64 bn, .slice bad bm bc, .slice yad b.length yc, .slice lad l.length lc], .int .i64 at_] w
      fun r w' => r = .returned (.tuple #[]) ∧ ∃ pv', Rn w' rb vb B vc 53 iv (.int .i64 (badOf (again (condOf is ck ca cb) (fun s => St.runAll is b (at_ + 1) s) m { s with steps := s.steps + 1 }).2)) pv' (again (condOf is ck ca cb) (fun s => St.runAll is b (at_ + 1) s) m { s with steps := s.steps + 1 }).1 ∧ RR rb vb w w' pv pv' := by
  subst hnm
  obtain ⟨c0, c1, c2, c3, c4, cf, cl⟩ := h.cells
  have hd : decide ((20000 : Int) ≤ (s.steps : Int)) = false := decide_eq_false (by omega)
  have HE : Hid (_ ∧ _) := h.entered (s.steps + 1) (.cells #[.int .i64 5, .int .i64 m, .int .i64 ek, .int .i64 en, .slice ead em ec, .int .i64 ck, .int .i64 ak, .int .i64 an, .slice aad am ac, .int .i64 bk, .int .i64 bn, .slice bad bm bc, .slice yad b.length yc, .slice lad l.length lc] 61)
  have HL : Hid (Below w0.heap.size w0 _) := HE.out.2.low h hrb hvb hB0
  have HQ : Hid (copyIs ((w.setCell ⟨rb, 2, none⟩ (.int .i64 (s.steps + 1 : Nat))).alloc (.cells #[.int .i64 5, .int .i64 m, .int .i64 ek, .int .i64 en, .slice ead em ec, .int .i64 ck, .int .i64 ak, .int .i64 an, .slice aad am ac, .int .i64 bk, .int .i64 bn, .slice bad bm bc, .slice yad b.length yc, .slice lad l.length lc] 61)) w.heap.size (.int .i64 5) (.int .i64 m) (.int .i64 ek) (.int .i64 en) (.slice ead em ec) (.int .i64 ck) (.int .i64 ak) (.int .i64 an) (.slice aad am ac) (.int .i64 bk) (.int .i64 bn) (.slice bad bm bc) (.slice yad b.length yc) (.slice lad l.length lc)) := by
    have := heap_alloc_new (w.setCell ⟨rb, 2, none⟩ (.int .i64 (s.steps + 1 : Nat))) (.cells #[.int .i64 5, .int .i64 m, .int .i64 ek, .int .i64 en, .slice ead em ec, .int .i64 ck, .int .i64 ak, .int .i64 an, .slice aad am ac, .int .i64 bk, .int .i64 bn, .slice bad bm bc, .slice yad b.length yc, .slice lad l.length lc] 61)
    rw [set_size] at this
    exact this
  have hcnt := St.countAll_le b
  have HY : Hid (St.Sl w0 b (.slice yad b.length yc) ∧ St.OkAll b ∧ ca.Ok ∧ cb.Ok ∧ InsIs w0 iv is ∧ ca.In w0 (.agg #[.int .i64 ak, .int .i64 an, .slice aad am ac]) ∧ cb.In w0 (.agg #[.int .i64 bk, .int .i64 bn, .slice bad bm bc])) := ⟨hy, hok, hoka, hokb, hi, hca, hcb⟩
  have HA : Hid (AllOk w0 is iv N) := hA
  have HNQ : Hid (w.heap.size ≠ rb ∧ w.heap.size ≠ vb ∧ some w.heap.size ≠ pv.ownBlock) := ⟨by omega, by have := h.vcells.2.2; omega, fun e => by have := (h.own_lt _ e.symm).2; omega⟩
  clear h hB0 hy hok hA hoka hokb hi hca hcb
  go_enter Tryd.func33, Tryd.ntmps33
  go_wp2_with (go_at_call 16; refine (Size_any 1048577 b _ _ (by omega) (by omega) (HY.out.1.below (HL.out))).mono ?_; rintro r w4 ⟨rfl, hb4⟩; have HB4 : Hid _ := hb4; obtain ⟨d0, d1, d2, d3, d4, d5, d6, d7, d8, d9, d10, d11, d12, d13, -⟩ := copyIs.cell ((hb4.block _ HQ.out.lt).trans HQ.out); have hql := World.block_lt_of_cell? _ _ d0; have HC4 : Hid (_ ∧ Below w0.heap.size w0 w4) := ⟨HE.out.1.below hb4, HL.out.trans (hb4.mono HL.out.size)⟩; clear hb4)
  have HD : Hid (w4.cell? ⟨w.heap.size, 0, none⟩ = some (.int .i64 5) ∧ w4.cell? ⟨w.heap.size, 1, none⟩ = some (.int .i64 m) ∧ w4.cell? ⟨w.heap.size, 5, none⟩ = some (.int .i64 ck) ∧ w4.cell? ⟨w.heap.size, 6, none⟩ = some (.int .i64 ak) ∧ w4.cell? ⟨w.heap.size, 7, none⟩ = some (.int .i64 an) ∧ w4.cell? ⟨w.heap.size, 8, none⟩ = some (.slice aad am ac) ∧ w4.cell? ⟨w.heap.size, 9, none⟩ = some (.int .i64 bk) ∧ w4.cell? ⟨w.heap.size, 10, none⟩ = some (.int .i64 bn) ∧ w4.cell? ⟨w.heap.size, 11, none⟩ = some (.slice bad bm bc) ∧ w4.cell? ⟨w.heap.size, 12, none⟩ = some (.slice yad b.length yc)) := ⟨d0, d1, d5, d6, d7, d8, d9, d10, d11, d12⟩
  clear d0 d1 d2 d3 d4 d5 d6 d7 d8 d9 d10 d11 d12 d13 c0 c1 c2 c3 c4 cf
  go_loopw [7] (fun x wr => ∃ (j : Nat) (pv' : Value) (r : Ms × Option Nat), j ≤ m ∧ x = .int .i64 j ∧ Rn wr rb vb B vc 53 iv (.int .i64 (badOf r.2)) pv' r.1 ∧ RR rb vb w4 wr pv pv' ∧ r.1.steps ≤ 20000 ∧ r.1.puts.length ≤ r.1.steps ∧ loopRest (condOf is ck ca cb) (fun s => St.runAll is b (at_ + 1) s) (m - j) r = again (condOf is ck ca cb) (fun s => St.runAll is b (at_ + 1) s) m { s with steps := s.steps + 1 }) (fun x _ => m - (intOf x).toNat)
  case atStart => exact ⟨0, pv, ({ s with steps := s.steps + 1 }, none), Nat.zero_le _, rfl, HC4.out.1, RR.refl _ _ _ _, by simp only; omega, by simp only; omega, rfl⟩
  case round =>
    obtain ⟨j, pv', ⟨s', z⟩, hj, rfl, hk, hrr, hst', hp', hrest⟩ := hrel
    simp only at hk hst' hp'
    obtain ⟨d0, d1, d5, d6, d7, d8, d9, d10, d11, d12⟩ := HD.out
    have g0 := hrr.cell HNQ.out.1 HNQ.out.2.1 HNQ.out.2.2 d0
    have g1 := hrr.cell HNQ.out.1 HNQ.out.2.1 HNQ.out.2.2 d1
    have g5 := hrr.cell HNQ.out.1 HNQ.out.2.1 HNQ.out.2.2 d5
    have g6 := hrr.cell HNQ.out.1 HNQ.out.2.1 HNQ.out.2.2 d6
    have g7 := hrr.cell HNQ.out.1 HNQ.out.2.1 HNQ.out.2.2 d7
    have g8 := hrr.cell HNQ.out.1 HNQ.out.2.1 HNQ.out.2.2 d8
    have g9 := hrr.cell HNQ.out.1 HNQ.out.2.1 HNQ.out.2.2 d9
    have g10 := hrr.cell HNQ.out.1 HNQ.out.2.1 HNQ.out.2.2 d10
    have g11 := hrr.cell HNQ.out.1 HNQ.out.2.1 HNQ.out.2.2 d11
    have g12 := hrr.cell HNQ.out.1 HNQ.out.2.1 HNQ.out.2.2 d12
    have kb := hk.cells.2.2.2.2.1
    have hlow := hrr.low HC4.out.1 hrb hvb HC4.out.2
    have HI : Hid (Rn wr rb vb B vc 53 iv (.int .i64 (badOf z)) pv' s' ∧ RR rb vb w4 wr pv pv' ∧ Below w0.heap.size w0 wr ∧ loopRest (condOf is ck ca cb) (fun s => St.runAll is b (at_ + 1) s) (m - j) (s', z) = again (condOf is ck ca cb) (fun s => St.runAll is b (at_ + 1) s) m { s with steps := s.steps + 1 }) := ⟨hk, hrr, hlow, hrest⟩
    clear d0 d1 d5 d6 d7 d8 d9 d10 d11 d12 hk hrr hlow hrest
    have fin : ∀ w9, Below wr.heap.size wr w9 → loopRest (condOf is ck ca cb) (fun s => St.runAll is b (at_ + 1) s) (m - j) (s', z) = (s', z) → ∃ pv'', Rn w9 rb vb B vc 53 iv (.int .i64 (badOf (again (condOf is ck ca cb) (fun s => St.runAll is b (at_ + 1) s) m { s with steps := s.steps + 1 }).2)) pv'' (again (condOf is ck ca cb) (fun s => St.runAll is b (at_ + 1) s) m { s with steps := s.steps + 1 }).1 ∧ RR rb vb w w9 pv pv'' := by
      intro w9 hb9 hE
      rw [← HI.out.2.2.2, hE]
      exact ⟨pv', HI.out.1.below hb9, HE.out.2.trans ((RR.of_below HB4.out).trans (HI.out.2.1.trans (RR.of_below hb9)))⟩
    have FIN : Hid _ := fin
    clear fin
    by_cases hlt : j < m
    · have hdj : decide ((j : Int) < (m : Int)) = true := decide_eq_true (by omega)
      cases z with
      | some zz =>
        have hdz : decide ((zz : Int) < 0) = false := decide_eq_false (by omega)
        have kb' : wr.cell? ⟨rb, 4, none⟩ = some (.int .i64 (zz : Int)) := kb
        clear kb
        go_wp2_with fail
        go_end0
        exact ⟨rfl, FIN.out _ (Below.refl _ _) rfl⟩
      | none =>
        have kb' : wr.cell? ⟨rb, 4, none⟩ = some (.int .i64 (-1)) := kb
        clear kb
        cases hcv : condVal ck (ca.val s'.vars is) (cb.val s'.vars is)
        · have HCV : Hid (condVal ck (ca.val s'.vars is) (cb.val s'.vars is) = false) := hcv
          clear hcv
          go_wp2_with (go_at_call 41; refine (true_any rb s'.vars is ck ak an bk bn hck ca cb aad bad am ac bm bc _ hna hnb HY.out.2.2.1 HY.out.2.2.2.1 (HI.out.1.val HY.out.2.2.2.2.1 HI.out.2.2.1) (HY.out.2.2.2.2.2.1.below HI.out.2.2.1) (HY.out.2.2.2.2.2.2.below HI.out.2.2.1)).mono ?_; rintro r w6 ⟨rfl, hb6⟩; rw [HCV.out]; have g12b := below_cell hb6 g12; have HB6 : Hid _ := hb6; clear hb6)
          go_end0
          exact ⟨rfl, FIN.out _ HB6.out (loopRest_stop HCV.out)⟩
        · have HCV : Hid (condVal ck (ca.val s'.vars is) (cb.val s'.vars is) = true) := hcv
          clear hcv
          go_wp2_with (first | (go_at_call 41; refine (true_any rb s'.vars is ck ak an bk bn hck ca cb aad bad am ac bm bc _ hna hnb HY.out.2.2.1 HY.out.2.2.2.1 (HI.out.1.val HY.out.2.2.2.2.1 HI.out.2.2.1) (HY.out.2.2.2.2.2.1.below HI.out.2.2.1) (HY.out.2.2.2.2.2.2.below HI.out.2.2.1)).mono ?_; rintro r w6 ⟨rfl, hb6⟩; rw [HCV.out]; have g12b := below_cell hb6 g12; have HB6 : Hid _ := hb6; clear hb6) | (go_at_call 23; refine (HA.out b _ rb vb B vc pv' _ s' (at_ + 1) hbN HY.out.2.1 hrb hvb (HI.out.2.2.1.trans (HB6.out.mono HI.out.2.2.1.size)) HY.out.1 (HI.out.1.below HB6.out) hst' hp' (by omega)).mono ?_; rintro r w5 ⟨rfl, pv5, hk5, hr5⟩; have H5 : Hid (_ ∧ _) := ⟨hk5, hr5⟩; clear hk5 hr5))
          go_roundw
          case rel =>
            have hkp := St.runAll_keep is b (at_ + 1) s' HI.out.1.vars.1
            refine ⟨j + 1, pv5, St.runAll is b (at_ + 1) s', by omega, by go_num, H5.out.1, HI.out.2.1.trans ((RR.of_below HB6.out).trans H5.out.2), hkp.2.1 hst', St.runAll_puts is b _ _ hp', ?_⟩
            rw [← HI.out.2.2.2, show m - j = (m - (j + 1)) + 1 by omega]
            exact (loopRest_step (HCV.out)).symm
          case measure => simp [intOf]; omega
    · have hje : j = m := by omega
      subst hje
      have hdj : decide ((j : Int) < (j : Int)) = false := by simp
      clear kb
      go_wp2_with fail
      go_end0
      exact ⟨rfl, FIN.out _ (Below.refl _ _) (by rw [Nat.sub_self]; exact loopRest_zero _)⟩
end Go.Proofs.YtikdidfgdiafoabDoor
namespace Go.Proofs.YtikdidfgdiafoabDoor
open Go.ChangeShapes Go.WideShapes Go.ChangeAt Go.RowKit

set_option maxHeartbeats 1000000 in
/-- A statement, given the lists within it. -/
theorem one_of_all (w0 : World) (is : List Int) (iv : Value) (hi : InsIs w0 iv is) (N : Nat) (hN : N ≤ 1048576) (hA : AllOk w0 is iv N) : OneOk w0 is iv (N + 1) := by
  intro x w rb vb B vc pv sv s at_ hb hok hrb hvb hB0 hin hrn hst hp hat
  obtain ⟨k, n, e, ck, ca, cb, b, l⟩ := x
  unfold St.In at hin
  obtain ⟨e0, e1, e2, a0, a1, a2, b0, b1, b2, sb, sl, rfl, he, hca, hcb, ⟨yad, yc, rfl, hy⟩, ⟨lad, lc, rfl, hl⟩⟩ := hin
  have hy' : St.Sl w0 b (.slice yad b.length yc) := ⟨yad, yc, rfl, hy⟩
  have hl' : St.Sl w0 l (.slice lad l.length lc) := ⟨lad, lc, rfl, hl⟩
  clear hy hl
  simp only [St.bulk] at hb hat
  obtain ⟨ek, en, ea⟩ := e
  obtain ⟨ak, an, aa⟩ := ca
  obtain ⟨bk, bn, ba⟩ := cb
  have he' := he
  have hca' := hca
  have hcb' := hcb
  unfold Ex.In at he' hca' hcb'
  obtain ⟨ead, ec, hve, -⟩ := he'
  obtain ⟨aad, ac, hva, -⟩ := hca'
  obtain ⟨bad, bc, hvb', -⟩ := hcb'
  simp at hve hva hvb'
  obtain ⟨rfl, rfl, rfl⟩ := hve
  obtain ⟨rfl, rfl, rfl⟩ := hva
  obtain ⟨rfl, rfl, rfl⟩ := hvb'
  unfold St.Ok at hok
  obtain ⟨⟨hk1, hk7⟩, ok1, ok2, ok3, ok4, okl, okb, okl'⟩ := hok
  by_cases h0 : s.steps = 20000
  · have e0 : St.run is (.mk k n (.mk ek en ea) ck (.mk ak an aa) (.mk bk bn ba) b l) at_ s = (s, some at_) := by rw [St.run, if_pos h0]
    rw [e0]
    exact one_bad w rb vb B vc iv pv s at_ h0 hrn k n ek en ck ak an bk bn ead aad bad yad lad _ ec _ ac _ bc yc lc b l
  have hlt : s.steps < 20000 := by omega
  have hbN : St.bulkAll b ≤ N := by omega
  have hlN : St.bulkAll l ≤ N := by omega
  have hat' : at_ + 1 + St.bulkAll b + St.bulkAll l ≤ 2097152 := by omega
  have hk : k = 1 ∨ k = 2 ∨ k = 3 ∨ k = 4 ∨ k = 5 ∨ k = 6 ∨ k = 7 := by omega
  rcases hk with rfl | rfl | rfl | rfl | rfl | rfl | rfl
  · obtain ⟨n0, n7, oke⟩ := ok1 rfl
    obtain ⟨m, rfl⟩ : ∃ m : Nat, n = m := ⟨n.toNat, by omega⟩
    have e0 : St.run is (.mk 1 m (.mk ek en ea) ck (.mk ak an aa) (.mk bk bn ba) b l) at_ s = ({ s with steps := s.steps + 1, vars := s.vars.set m ((Ex.mk ek en ea).val s.vars is) }, none) := by rw [St.run, if_neg h0]; simp
    rw [e0]
    exact one_1 w0 w rb vb B vc iv pv s at_ hlt hrn hrb hvb hB0 m ek en ck ak an bk bn ead aad bad yad lad _ ec _ ac _ bc yc lc b l hy' (by omega) hat' is m (by omega) rfl (.mk ek en ea) (by omega) oke hi he
  · have e0 : St.run is (.mk 2 n (.mk ek en ea) ck (.mk ak an aa) (.mk bk bn ba) b l) at_ s = ({ s with steps := s.steps + 1, puts := s.puts ++ [(n, (Ex.mk ek en ea).val s.vars is)] }, none) := by rw [St.run, if_neg h0]; simp
    rw [e0]
    exact one_2 w0 w rb vb B vc iv pv s at_ hlt hrn hrb hvb hB0 n ek en ck ak an bk bn ead aad bad yad lad _ ec _ ac _ bc yc lc b l hy' (by omega) hat' is hp (.mk ek en ea) (by omega) (ok2 rfl) hi he
  · have e0 : St.run is (.mk 3 n (.mk ek en ea) ck (.mk ak an aa) (.mk bk bn ba) b l) at_ s = if condOf is ck (.mk ak an aa) (.mk bk bn ba) s then St.runAll is b (at_ + 1) { s with steps := s.steps + 1 } else St.runAll is l (at_ + 1 + St.countAll b) { s with steps := s.steps + 1 } := by rw [St.run, if_neg h0]; simp
    rw [e0]
    obtain ⟨hck, oka, okb'⟩ := ok3 (.inl rfl)
    exact one_3 w0 w rb vb B vc iv pv s at_ hlt hrn hrb hvb hB0 n ek en ck ak an bk bn ead aad bad yad lad _ ec _ ac _ bc yc lc b l hy' (by omega) hat' is N hA hbN hlN okb okl' hl' hp (.mk ak an aa) (.mk bk bn ba) hck (by omega) (by omega) oka okb' hi hca hcb
  · obtain ⟨n0, n1⟩ := ok4 (.inl rfl)
    obtain ⟨m, rfl⟩ : ∃ m : Nat, n = m := ⟨n.toNat, by omega⟩
    have e0 : St.run is (.mk 4 m (.mk ek en ea) ck (.mk ak an aa) (.mk bk bn ba) b l) at_ s = again (fun _ => true) (fun s => St.runAll is b (at_ + 1) s) m { s with steps := s.steps + 1 } := by rw [St.run, if_neg h0]; simp
    rw [e0]
    exact one_4 w0 w rb vb B vc iv pv s at_ hlt hrn hrb hvb hB0 m ek en ck ak an bk bn ead aad bad yad lad _ ec _ ac _ bc yc lc b l hy' (by omega) hat' is N m rfl (by omega) hA hbN okb hp
  · obtain ⟨n0, n1⟩ := ok4 (.inr rfl)
    obtain ⟨m, rfl⟩ : ∃ m : Nat, n = m := ⟨n.toNat, by omega⟩
    have e0 : St.run is (.mk 5 m (.mk ek en ea) ck (.mk ak an aa) (.mk bk bn ba) b l) at_ s = again (condOf is ck (.mk ak an aa) (.mk bk bn ba)) (fun s => St.runAll is b (at_ + 1) s) m { s with steps := s.steps + 1 } := by rw [St.run, if_neg h0]; simp
    rw [e0]
    obtain ⟨hck, oka, okb'⟩ := ok3 (.inr rfl)
    exact one_5 w0 w rb vb B vc iv pv s at_ hlt hrn hrb hvb hB0 m ek en ck ak an bk bn ead aad bad yad lad _ ec _ ac _ bc yc lc b l hy' (by omega) hat' is N m rfl (by omega) hA hbN okb hp (.mk ak an aa) (.mk bk bn ba) hck (by omega) (by omega) oka okb' hi hca hcb
  · have e0 : St.run is (.mk 6 n (.mk ek en ea) ck (.mk ak an aa) (.mk bk bn ba) b l) at_ s = St.runAll is b (at_ + 1) { s with steps := s.steps + 1 } := by rw [St.run, if_neg h0]; simp
    rw [e0]
    exact one_6 w0 w rb vb B vc iv pv s at_ hlt hrn hrb hvb hB0 n ek en ck ak an bk bn ead aad bad yad lad _ ec _ ac _ bc yc lc b l hy' (by omega) hat' is N hA hbN okb hp
  · have e0 : St.run is (.mk 7 n (.mk ek en ea) ck (.mk ak an aa) (.mk bk bn ba) b l) at_ s = ({ s with steps := s.steps + 1 }, none) := by rw [St.run, if_neg h0]; simp
    rw [e0]
    exact one_7 w0 w rb vb B vc iv pv s at_ hlt hrn hrb hvb hB0 n ek en ck ak an bk bn ead aad bad yad lad _ ec _ ac _ bc yc lc b l hy' (by omega) hat'

theorem bulk_pos' : ∀ s : St, 1 ≤ s.bulk
  | .mk k n e ck ca cb b l => by unfold St.bulk; omega

/-- All lists, on the document's side. -/
theorem mean_all (w0 : World) (is : List Int) (iv : Value) (hi : InsIs w0 iv is) : ∀ N, N ≤ 1048576 → AllOk w0 is iv N := by
  intro N
  induction N with
  | zero =>
    intro _
    refine all_of_one w0 is iv 0 (by omega) ?_
    intro x w rb vb B vc pv sv s at_ h
    have := bulk_pos' x
    omega
  | succ N ih =>
    intro hN
    exact all_of_one w0 is iv (N + 1) hN (one_of_all w0 is iv hi N (by omega) (ih (by omega)))
end Go.Proofs.YtikdidfgdiafoabDoor
namespace Go.Proofs.YtikdidfgdiafoabDoor
open Go.ChangeShapes Go.WideShapes Go.ChangeAt Go.RowKit

/-- A list's statements stand in the table from a number on. -/
def Sub (L : List Nd) (a : List St) (at_ : Nat) : Prop := ∃ L1 L2, L = L1 ++ (St.numAll a at_ ++ L2) ∧ L1.length = at_

/-- A statement stands in the table at its number. -/
def AtNd (L : List Nd) (f : Nd) (at_ : Nat) : Prop := ∃ L1 L2, L = L1 ++ f :: L2 ∧ L1.length = at_

theorem Sub.drop {L : List Nd} {a : List St} {at_ : Nat} (h : Sub L a at_) : ∀ j, Sub L (a.drop j) (at_ + St.countAll (a.take j)) := by
  intro j
  obtain ⟨L1, L2, hL, hl⟩ := h
  induction a generalizing at_ L1 j with
  | nil => exact ⟨L1, L2, by simpa [St.countAll] using hL, by simp [St.countAll, hl]⟩
  | cons x r ih =>
    cases j with
    | zero => exact ⟨L1, L2, by simpa [St.countAll] using hL, by simp [St.countAll, hl]⟩
    | succ j =>
      rw [St.numAll] at hL
      have := ih (at_ := at_ + x.count) j (L1 ++ St.num x at_) (by rw [hL]; simp) (by rw [List.length_append, hl, St.num_length])
      simp only [List.drop_succ_cons, List.take_succ_cons, St.countAll]
      rw [← Nat.add_assoc]
      exact this

theorem Sub.parts {L : List Nd} {r : List St} {at_ : Nat} {k n : Int} {e : Ex} {ck : Int} {ca cb : Ex} {b l : List St} (h : Sub L (.mk k n e ck ca cb b l :: r) at_) :
    AtNd L ⟨.mk k n e ck ca cb b l, at_ + 1 + St.countAll b, at_ + 1 + St.countAll b + St.countAll l⟩ at_ ∧ Sub L b (at_ + 1) ∧ Sub L l (at_ + 1 + St.countAll b) := by
  obtain ⟨L1, L2, hL, hl⟩ := h
  rw [St.numAll, St.num] at hL
  refine ⟨⟨L1, St.numAll b (at_ + 1) ++ St.numAll l (at_ + 1 + St.countAll b) ++ St.numAll r (at_ + (St.mk k n e ck ca cb b l).count) ++ L2, by rw [hL]; simp only [List.cons_append], hl⟩, ⟨L1 ++ [⟨.mk k n e ck ca cb b l, at_ + 1 + St.countAll b, at_ + 1 + St.countAll b + St.countAll l⟩], St.numAll l (at_ + 1 + St.countAll b) ++ (St.numAll r (at_ + (St.mk k n e ck ca cb b l).count) ++ L2), by rw [hL]; simp, by simp [hl]⟩,
    ⟨L1 ++ (⟨.mk k n e ck ca cb b l, at_ + 1 + St.countAll b, at_ + 1 + St.countAll b + St.countAll l⟩ :: St.numAll b (at_ + 1)), St.numAll r (at_ + (St.mk k n e ck ca cb b l).count) ++ L2, by rw [hL]; simp, by simp [hl, St.numAll_length]; omega⟩⟩

/-- The table, as it lies in memory. -/
def TabIs (w0 w : World) (nb : Nat) (L : List Nd) : Prop := ∃ xs, (∀ i u, xs[i]? = some u → w.cell? ⟨nb, i, none⟩ = some u) ∧ Nd.Cells w0 L xs

theorem TabIs.of {w0 w w' : World} {nb : Nat} {L : List Nd} (h : TabIs w0 w nb L) (hb : w'.heap[nb]? = w.heap[nb]?) : TabIs w0 w' nb L := by
  obtain ⟨xs, h1, h2⟩ := h
  exact ⟨xs, fun i u hu => (World.cell?_of_block hb).trans (h1 i u hu), h2⟩

theorem TabIs.at {w0 w : World} {nb : Nat} {L : List Nd} {f : Nd} {at_ : Nat} (h : TabIs w0 w nb L) (ha : AtNd L f at_) : ∃ x : Nat → Value, f.s.In w0 (stVal x) ∧ (∀ i, i < 14 → w.cell? ⟨nb, at_ * 16 + i, none⟩ = some (x i)) ∧ w.cell? ⟨nb, at_ * 16 + 14, none⟩ = some (.int .i64 f.o) ∧ w.cell? ⟨nb, at_ * 16 + 15, none⟩ = some (.int .i64 f.n) := by
  obtain ⟨xs, h1, h2⟩ := h
  obtain ⟨L1, L2, rfl, rfl⟩ := ha
  obtain ⟨x, g1, g2, g3, g4⟩ := h2.at
  exact ⟨x, g1, fun i hi => h1 _ _ (g2 i hi), h1 _ _ g3, h1 _ _ g4⟩

theorem AtNd.lt {L : List Nd} {f : Nd} {at_ : Nat} (h : AtNd L f at_) : at_ < L.length := by
  obtain ⟨L1, L2, rfl, rfl⟩ := h
  simp

/-- What is thrown at a step too many. -/
def thrown (z : Nat) : List PanicEntry := [{ v := .iface 85 (.int .i64 z), recovered := false }]

/-- How a piece of the program's run ends. -/
def RunPost (rb vb B vc : Nat) (iv nv : Value) (w : World) (pv : Value) (r : Ms × Option Nat) (e : Ending) (w' : World) : Prop :=
  match r.2 with
  | none => e = .returned (.tuple #[]) ∧ ∃ pv', Rn w' rb vb B vc 67 iv nv pv' r.1 ∧ RR rb vb w w' pv pv'
  | some z => e = .panicked (thrown z) ∧ ∃ pv', RR rb vb w w' pv pv'

/-- Where the program's run stands. -/
structure Here (w0 w : World) (rb vb B vc nb nc : Nat) (iv pv : Value) (L : List Nd) (is : List Int) (s : Ms) : Prop where
  rn : Rn w rb vb B vc 67 iv (.slice (some ⟨nb, 0, none⟩) L.length nc) pv s
  tab : TabIs w0 w nb L
  ins : InsIs w0 iv is
  low : Below w0.heap.size w0 w
  nr : nb ≠ rb
  nv : nb ≠ vb
  nB : nb < B
  lr : w0.heap.size ≤ rb
  lv : w0.heap.size ≤ vb
  st : s.steps ≤ 20000
  pt : s.puts.length ≤ s.steps

theorem Here.next {w0 w w' : World} {rb vb B vc nb nc : Nat} {iv pv pv' : Value} {L : List Nd} {is : List Int} {s s' : Ms} (h : Here w0 w rb vb B vc nb nc iv pv L is s) (hr : Rn w' rb vb B vc 67 iv (.slice (some ⟨nb, 0, none⟩) L.length nc) pv' s') (hR : RR rb vb w w' pv pv') (hs : s'.steps ≤ 20000) (hp : s'.puts.length ≤ s'.steps) (hnl : nb < w.heap.size) :
    Here w0 w' rb vb B vc nb nc iv pv' L is s' :=
  ⟨hr, h.tab.of (hR.block nb hnl h.nr h.nv fun e => by have := (h.rn.own_lt nb e.symm).1; have := h.nB; omega), h.ins, hR.low h.rn h.lr h.lv h.low, h.nr, h.nv, h.nB, h.lr, h.lv, hs, hp⟩

theorem Here.below {w0 w w' : World} {rb vb B vc nb nc : Nat} {iv pv : Value} {L : List Nd} {is : List Int} {s : Ms} (h : Here w0 w rb vb B vc nb nc iv pv L is s) (hb : Below w.heap.size w w') (hnl : nb < w.heap.size) : Here w0 w' rb vb B vc nb nc iv pv L is s :=
  h.next (h.rn.below hb) (RR.of_below hb) h.st h.pt hnl

def StepP (w0 : World) (rb vb B vc nb nc : Nat) (iv : Value) (L : List Nd) (is : List Int) (N : Nat) : Prop := ∀ (x : St) (r : List St) (w : World) (pv : Value) (s : Ms) (at_ : Nat), x.bulk ≤ N → x.Ok → Sub L (x :: r) at_ → Here w0 w rb vb B vc nb nc iv pv L is s →
  Calls Tryd.prog 47 #[.pointer (some ⟨rb, 0, none⟩), .int .i64 at_] w (RunPost rb vb B vc iv (.slice (some ⟨nb, 0, none⟩) L.length nc) w pv (St.run is x at_ s))

def ListP (w0 : World) (rb vb B vc nb nc : Nat) (iv : Value) (L : List Nd) (is : List Int) (N : Nat) : Prop := ∀ (a : List St) (w : World) (pv : Value) (s : Ms) (at_ : Nat), St.bulkAll a ≤ N → St.OkAll a → Sub L a at_ → Here w0 w rb vb B vc nb nc iv pv L is s →
  Calls Tryd.prog 37 #[.pointer (some ⟨rb, 0, none⟩), .int .i64 at_, .int .i64 ((at_ + St.countAll a : Nat) : Int)] w (RunPost rb vb B vc iv (.slice (some ⟨nb, 0, none⟩) L.length nc) w pv (St.runAll is a at_ s))
end Go.Proofs.YtikdidfgdiafoabDoor
namespace Go.Proofs.YtikdidfgdiafoabDoor
open Go.ChangeShapes Go.WideShapes Go.ChangeAt Go.RowKit

theorem count_pos : ∀ x : St, 1 ≤ x.count
  | .mk k n e ck ca cb b l => by unfold St.count; omega

theorem Sub.le {L : List Nd} {a : List St} {at_ : Nat} (h : Sub L a at_) : at_ + St.countAll a ≤ L.length := by
  obtain ⟨L1, L2, rfl, rfl⟩ := h
  simp [St.numAll_length]

theorem Here.nl {w0 w : World} {rb vb B vc nb nc : Nat} {iv pv : Value} {L : List Nd} {is : List Int} {s : Ms} (h : Here w0 w rb vb B vc nb nc iv pv L is s) : nb < w.heap.size := Nat.lt_of_lt_of_le h.nB h.rn.le

theorem Sub.head {L : List Nd} {r : List St} : ∀ {x : St} {A : Nat}, Sub L (x :: r) A → ∃ o, AtNd L ⟨x, o, A + x.count⟩ A
  | .mk k n e ck ca cb b l, A, h => ⟨A + 1 + St.countAll b, by
      have := h.parts.1
      rw [show A + (St.mk k n e ck ca cb b l).count = A + 1 + St.countAll b + St.countAll l by simp only [St.count]; omega]
      exact this⟩

set_option maxRecDepth 20000 in
set_option maxHeartbeats 4000000 in
theorem listp_of_step (w0 : World) (rb vb B vc nb nc : Nat) (iv : Value) (L : List Nd) (is : List Int) (N : Nat) (hst : StepP w0 rb vb B vc nb nc iv L is N) : ListP w0 rb vb B vc nb nc iv L is N := by
  intro a w pv s at_ hb hok hsub hh
  have hle := hsub.le
  have HR : Hid (St.OkAll a ∧ Sub L a at_ ∧ Here w0 w rb vb B vc nb nc iv pv L is s ∧ StepP w0 rb vb B vc nb nc iv L is N) := ⟨hok, hsub, hh, hst⟩
  clear hok hsub hh hst
  obtain ⟨T0, hT0⟩ : ∃ T0, T0 = at_ + St.countAll a := ⟨_, rfl⟩
  rw [← hT0]
  rw [← hT0] at hle
  have HT : Hid (T0 = at_ + St.countAll a) := hT0
  clear hT0
  go_enter Tryd.func37, Tryd.ntmps37
  go_wp2_with fail
  go_loopw [6] (fun x wr => ∃ (j : Nat) (pv' : Value) (s' : Ms), j ≤ a.length ∧ x = .int .i64 ((at_ + St.countAll (a.take j) : Nat) : Int) ∧ Here w0 wr rb vb B vc nb nc iv pv' L is s' ∧ RR rb vb w wr pv pv' ∧ listRest is (a.drop j) (at_ + St.countAll (a.take j)) (s', none) = St.runAll is a at_ s) (fun x _ => T0 - (intOf x).toNat)
  case atStart => exact ⟨0, pv, s, Nat.zero_le _, by simp [St.countAll], HR.out.2.2.1, RR.refl _ _ _ _, by simp [St.countAll, listRest]⟩
  case round =>
    obtain ⟨j, pv', s', hj, rfl, hh, hrr, hrest⟩ := hrel
    by_cases hlt : j < a.length
    · have hta := countAll_take a j hlt
      have htl := countAll_take_le a (j + 1)
      have hcp := count_pos a[j]
      have hsb := HR.out.2.1.drop j
      rw [List.drop_eq_getElem_cons hlt] at hsb
      have hbj := bulkAll_at a j a[j] (by simp [hlt])
      have hokj := StOkAll_at a j hlt HR.out.1
      have hstep := listRest_step (is := is) (at_ := at_ + St.countAll (a.take j)) (s := s') hlt
      have hT := HT.out
      obtain ⟨A, hA⟩ : ∃ A, A = at_ + St.countAll (a.take j) := ⟨_, rfl⟩
      have hA1 : A + (a[j]).count = at_ + St.countAll (a.take (j + 1)) := by omega
      have hA2 : A < T0 := by omega
      rw [← hA] at hsb hrest hstep ⊢
      rw [hA1] at hstep
      obtain ⟨oo, hAT⟩ := hsb.head
      have hALt := hAT.lt
      rcases hz : St.run is a[j] A s' with ⟨s3, _ | z⟩
      · have hkp := St.run_keep is a[j] A s' hh.rn.vars.1
        have hpp := St.run_puts is a[j] A s' hh.pt
        rw [hz] at hkp hpp hstep
        have HX : Hid (Here w0 wr rb vb B vc nb nc iv pv' L is s' ∧ RR rb vb w wr pv pv' ∧ Sub L (a[j] :: a.drop (j + 1)) A ∧ (a[j]).Ok ∧ AtNd L ⟨a[j], oo, A + (a[j]).count⟩ A ∧ St.run is a[j] A s' = (s3, none) ∧ (s3.steps ≤ 20000 ∧ s3.puts.length ≤ s3.steps) ∧ listRest is (a.drop (j + 1)) (at_ + St.countAll (a.take (j + 1))) (s3, none) = St.runAll is a at_ s ∧ A + (a[j]).count = at_ + St.countAll (a.take (j + 1))) := ⟨hh, hrr, hsb, hokj, hAT, hz, ⟨hkp.2.1 hh.st, hpp⟩, hstep.symm.trans hrest, hA1⟩
        clear hh hrr hsb hokj hAT hz hkp hpp hstep hrest hA1 hA hta hT
        go_wp2_with (go_at_call 47; refine (HR.out.2.2.2 a[j] (a.drop (j + 1)) _ pv' s' A (by omega) HX.out.2.2.2.1 HX.out.2.2.1 HX.out.1).mono ?_; intro r w3 hpost; unfold RunPost at hpost; rw [HX.out.2.2.2.2.2.1] at hpost; obtain ⟨rfl, pv3, hk3, hr3⟩ := hpost; have hh3 := HX.out.1.next hk3 hr3 HX.out.2.2.2.2.2.2.1.1 HX.out.2.2.2.2.2.2.1.2 HX.out.1.nl; obtain ⟨-, -, -, -, k4, -, -⟩ := hh3.rn.cells; obtain ⟨-, -, -, -, k15⟩ := hh3.tab.at HX.out.2.2.2.2.1; have H3 : Hid (_ ∧ _) := ⟨hh3, hr3⟩; clear hk3 hr3 hh3)
        go_roundw
        case rel => exact ⟨j + 1, pv3, s3, by omega, congrArg (Value.int .i64) (by have := HX.out.2.2.2.2.2.2.2.2; omega), H3.out.1, HX.out.2.1.trans H3.out.2, HX.out.2.2.2.2.2.2.2.1⟩
        case measure => simp [intOf]; omega
      · rw [hz] at hstep
        have HX : Hid (Here w0 wr rb vb B vc nb nc iv pv' L is s' ∧ RR rb vb w wr pv pv' ∧ Sub L (a[j] :: a.drop (j + 1)) A ∧ (a[j]).Ok ∧ St.run is a[j] A s' = (s3, some z) ∧ (s3, some z) = St.runAll is a at_ s) := ⟨hh, hrr, hsb, hokj, hz, hstep.symm.trans hrest⟩
        clear hh hrr hsb hokj hAT hz hstep hrest hA1 hA hta hT
        go_wp2_with (go_at_call 47; refine (HR.out.2.2.2 a[j] (a.drop (j + 1)) _ pv' s' A (by omega) HX.out.2.2.2.1 HX.out.2.2.1 HX.out.1).mono ?_; intro r w3 hpost; unfold RunPost at hpost; rw [HX.out.2.2.2.2.1] at hpost; obtain ⟨rfl, pv3, hr3⟩ := hpost; have H3 : Hid _ := hr3; clear hr3)
        refine ⟨rfl, ?_⟩
        rw [← HX.out.2.2.2.2.2]
        exact ⟨rfl, pv3, HX.out.2.1.trans H3.out⟩
    · have hje : j = a.length := by omega
      subst hje
      rw [List.take_length, List.drop_length] at hrest
      rw [List.take_length, ← HT.out]
      have HX : Hid (Here w0 wr rb vb B vc nb nc iv pv' L is s' ∧ RR rb vb w wr pv pv' ∧ (s', none) = St.runAll is a at_ s) := ⟨hh, hrr, by rw [← hrest, listRest, St.runAll]⟩
      clear hh hrr hrest
      go_wp2_with fail
      go_end0
      rw [← HX.out.2.2]
      exact ⟨rfl, pv', HX.out.1.rn, HX.out.2.1⟩
end Go.Proofs.YtikdidfgdiafoabDoor
namespace Go.Proofs.YtikdidfgdiafoabDoor
open Go.ChangeShapes Go.WideShapes Go.ChangeAt Go.RowKit

theorem cell_set' {w : World} {p o : Nat} {a : Addr} {u x : Value} (h : p ≠ a.block) (hc : w.cell? ⟨p, o, none⟩ = some x) : (w.setCell a u).cell? ⟨p, o, none⟩ = some x :=
  (World.cell?_of_block (Below.heap_setCell _ _ _ _ h)).trans hc

set_option maxRecDepth 20000 in
set_option maxHeartbeats 4000000 in
/-- A step too many. -/
theorem step_bad (w0 w : World) (rb vb B vc nb nc : Nat) (iv pv : Value) (L : List Nd) (is : List Int) (s : Ms) (at_ : Nat) (hh : Here w0 w rb vb B vc nb nc iv pv L is s) (hst : s.steps = 20000) :
    Calls Tryd.prog 47 #[.pointer (some ⟨rb, 0, none⟩), .int .i64 at_] w (RunPost rb vb B vc iv (.slice (some ⟨nb, 0, none⟩) L.length nc) w pv (s, some at_)) := by
  obtain ⟨r0, r1, r2, r3, r4, rf, rl⟩ := hh.rn.cells
  have hd : ((s.steps : Int) == 20000) = true := by simp; omega
  clear hh hst
  go_enter Tryd.func47, Tryd.ntmps47
  go_wp2_with fail
  refine ⟨rfl, ?_⟩
  exact ⟨rfl, pv, RR.refl _ _ _ _⟩

set_option maxRecDepth 20000 in
set_option maxHeartbeats 4000000 in
theorem step_7 (w0 w : World) (rb vb B vc nb nc : Nat) (iv pv : Value) (L : List Nd) (is : List Int) (s : Ms) (at_ : Nat) (hh : Here w0 w rb vb B vc nb nc iv pv L is s) (hst : s.steps < 20000) (hA : at_ < L.length) (_ : L.length ≤ 2097152) 
    (c0 : w.cell? ⟨nb, at_ * 16, none⟩ = some (.int .i64 7)) :
    Calls Tryd.prog 47 #[.pointer (some ⟨rb, 0, none⟩), .int .i64 at_] w (RunPost rb vb B vc iv (.slice (some ⟨nb, 0, none⟩) L.length nc) w pv ({ s with steps := s.steps + 1 }, none)) := by
  obtain ⟨r0, r1, r2, r3, r4, rf, rl⟩ := hh.rn.cells
  have hd : ((s.steps : Int) == 20000) = false := by simp; omega
  have hnr : nb ≠ rb := hh.nr
  have hE := hh.rn.stepped (s.steps + 1)
  have HE : Hid (Here w0 (w.setCell ⟨rb, 2, none⟩ (.int .i64 ((s.steps : Int) + 1))) rb vb B vc nb nc iv pv L is { s with steps := s.steps + 1 } ∧ RR rb vb w (w.setCell ⟨rb, 2, none⟩ (.int .i64 ((s.steps : Int) + 1))) pv pv) := ⟨hh.next hE.1 hE.2 (by simp only; omega) (by have := hh.pt; simp only; omega) hh.nl, hE.2⟩
  obtain ⟨q0, q1, -, q3, q4, qf, ql⟩ := HE.out.1.rn.cells
  have e0 := cell_set' (u := .int .i64 ((s.steps : Int) + 1)) (a := ⟨rb, 2, none⟩) hnr c0
  have HN : Hid (nb < w.heap.size) := hh.nl
  clear hE hh c0
  go_enter Tryd.func47, Tryd.ntmps47
  go_wp2_with fail
  go_end0
  exact ⟨rfl, pv, HE.out.1.rn, HE.out.2⟩

set_option maxRecDepth 20000 in
set_option maxHeartbeats 4000000 in
theorem step_6 (w0 w : World) (rb vb B vc nb nc : Nat) (iv pv : Value) (L : List Nd) (is : List Int) (s : Ms) (at_ : Nat) (hh : Here w0 w rb vb B vc nb nc iv pv L is s) (hst : s.steps < 20000) (hA : at_ < L.length) (hL : L.length ≤ 2097152) (nn : Nat) (N : Nat) (hP : ListP w0 rb vb B vc nb nc iv L is N) (b : List St) (hbN : St.bulkAll b ≤ N) (hok : St.OkAll b) (hsub : Sub L b (at_ + 1)) (hnn : nn = at_ + 1 + St.countAll b)
    (c0 : w.cell? ⟨nb, at_ * 16, none⟩ = some (.int .i64 6)) (c15 : w.cell? ⟨nb, at_ * 16 + 15, none⟩ = some (.int .i64 (nn : Nat))) :
    Calls Tryd.prog 47 #[.pointer (some ⟨rb, 0, none⟩), .int .i64 at_] w (RunPost rb vb B vc iv (.slice (some ⟨nb, 0, none⟩) L.length nc) w pv (St.runAll is b (at_ + 1) { s with steps := s.steps + 1 })) := by
  obtain ⟨r0, r1, r2, r3, r4, rf, rl⟩ := hh.rn.cells
  have hd : ((s.steps : Int) == 20000) = false := by simp; omega
  have hnr : nb ≠ rb := hh.nr
  have hE := hh.rn.stepped (s.steps + 1)
  have HE : Hid (Here w0 (w.setCell ⟨rb, 2, none⟩ (.int .i64 ((s.steps : Int) + 1))) rb vb B vc nb nc iv pv L is { s with steps := s.steps + 1 } ∧ RR rb vb w (w.setCell ⟨rb, 2, none⟩ (.int .i64 ((s.steps : Int) + 1))) pv pv) := ⟨hh.next hE.1 hE.2 (by simp only; omega) (by have := hh.pt; simp only; omega) hh.nl, hE.2⟩
  obtain ⟨q0, q1, -, q3, q4, qf, ql⟩ := HE.out.1.rn.cells
  have e0 := cell_set' (u := .int .i64 ((s.steps : Int) + 1)) (a := ⟨rb, 2, none⟩) hnr c0
  have e15 := cell_set' (u := .int .i64 ((s.steps : Int) + 1)) (a := ⟨rb, 2, none⟩) hnr c15
  have HN : Hid (nb < w.heap.size) := hh.nl
  clear hE hh c0 c15
  subst hnn
  have HP : Hid (ListP w0 rb vb B vc nb nc iv L is N ∧ St.OkAll b ∧ Sub L b (at_ + 1)) := ⟨hP, hok, hsub⟩
  have hsl := hsub.le
  clear hP hok hsub
  go_enter Tryd.func47, Tryd.ntmps47
  rcases hz : St.runAll is b (at_ + 1) { s with steps := s.steps + 1 } with ⟨s3, _ | z⟩
  · have HZ : Hid (_ = _) := hz
    clear hz
    go_wp2_with (go_at_call 37; refine (HP.out.1 b _ pv { s with steps := s.steps + 1 } (at_ + 1) hbN HP.out.2.1 HP.out.2.2 HE.out.1).mono ?_; intro r w3 hpost; unfold RunPost at hpost; rw [HZ.out] at hpost; obtain ⟨rfl, pv3, hk3, hr3⟩ := hpost; have H3 : Hid (_ ∧ _) := ⟨hk3, hr3⟩; clear hk3 hr3)
    go_end0
    exact ⟨rfl, pv3, H3.out.1, HE.out.2.trans H3.out.2⟩
  · have HZ : Hid (_ = _) := hz
    clear hz
    go_wp2_with (go_at_call 37; refine (HP.out.1 b _ pv { s with steps := s.steps + 1 } (at_ + 1) hbN HP.out.2.1 HP.out.2.2 HE.out.1).mono ?_; intro r w3 hpost; unfold RunPost at hpost; rw [HZ.out] at hpost; obtain ⟨rfl, pv3, hr3⟩ := hpost; have H3 : Hid _ := hr3; clear hr3)
    refine ⟨rfl, ?_⟩
    exact ⟨rfl, pv3, HE.out.2.trans H3.out⟩
end Go.Proofs.YtikdidfgdiafoabDoor
