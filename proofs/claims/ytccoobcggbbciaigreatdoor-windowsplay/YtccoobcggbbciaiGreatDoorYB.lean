import Derived.Test.YtccoobcggbbciaiGreatDoorXA
import Derived.Test.YtccoobcggbbciaiGreatDoorTM
import Derived.Test.YtccoobcggbbciaiGreatDoorXS
namespace Go.Proofs.YtccoobcggbbciaiGreatDoor
open Go.ChangeShapes Go.WideShapes Go.ChangeAt Go.RowKit

set_option maxRecDepth 20000 in
theorem up_any (w : World) (a b : Int) (h0 : 0 ≤ a) (h1 : a ≤ 100000) (h2 : 1 ≤ b) (h3 : b ≤ 10000) : Calls Tryz.prog 48 #[.int .i64 a, .int .i64 b] w fun r w' => r = .returned (.int .i64 ((a + b - 1) / b)) ∧ w' = w := by
  rw [← up_eq (a := a) (b := b) (by omega)]
  have e := Int.mul_ediv_add_emod a b
  have e1 := Int.emod_nonneg a (show b ≠ 0 by omega)
  have q0 : 0 ≤ a / b := Int.ediv_nonneg h0 (by omega)
  have q1 : a / b ≤ a := Int.ediv_le_self b h0
  have e5 : a.tdiv b = a / b := Int.tdiv_eq_ediv_of_nonneg h0
  rw [Int.mul_comm] at e
  have e6 : IntKind.i64.wrap (a / b) = a / b := by rw [IntKind.wrap_i64]; omega
  have e7 : IntKind.i64.wrap (a / b * b) = a / b * b := by rw [IntKind.wrap_i64]; have : 0 ≤ a / b * b := Int.mul_nonneg q0 (by omega); omega
  have e8 : IntKind.i64.wrap (a / b + 1) = a / b + 1 := by rw [IntKind.wrap_i64]; omega
  have hb : (b == 0) = false := by simp; omega
  have hb' : ¬ b = 0 := by omega
  by_cases hlt : a / b * b < a
  · rw [if_pos hlt]
    clear e
    go_enter Tryz.func48, Tryz.ntmps48
    go_wp2_with fail
    go_ret
    exact ⟨rfl, rfl⟩
  · rw [if_neg hlt]
    clear e
    go_enter Tryz.func48, Tryz.ntmps48
    go_wp2_with fail
    go_ret
    exact ⟨rfl, rfl⟩

theorem CheckFixed_ends {w : World} {g : Nat} {c k : Value} {a : Act} (h : w.heap[g]? = some (.cells #[c, k] 30 (0, 0))) (h3 : a.tmps[2]?.getD undef = .pointer (some ⟨g, 0, none⟩)) :
    (results Tryz.f78 a.tmps).run Tryz.prog w = .ok (.agg #[c, k]) w := by
  obtain ⟨c1, f1, l1⟩ := cells_of (l := [_, _]) h
  have c10 := c1 0 _ rfl
  have c11 := c1 1 _ rfl
  simp [results, Tryz.results78, go_sem, h3, c10, c11]

set_option maxRecDepth 20000 in
set_option maxHeartbeats 4000000 in
theorem CheckFixed_any (w : World) (l : List Ta) (v : Value) (hS : ∀ x ∈ l, x.nm.size ≤ 9223372036854775807) (hv : RowSl Ta.vals w l v) : Calls Tryz.prog 78 #[v] w fun r w' => r = .returned (.agg #[.int .i64 (chkX l).1, .int .i64 (chkX l).2]) ∧ Below w.heap.size w w' := by
  obtain ⟨ad, c, rfl⟩ := hv.len
  have HV : Hid (RowSl Ta.vals w l (.slice ad l.length c)) := hv
  have HC := fun W hb => CheckSet_any W l (.slice ad l.length c) hS (HV.out.below (w' := W) hb)
  have HF : Hid (FB w (w.alloc (.cells #[.int .i64 0, .int .i64 0] 30)) w.heap.size) := FB.start w
  clear hv hS
  by_cases h0 : (chkF l).1 ≠ 0
  · rw [show chkX l = chkF l by unfold chkX; rw [if_pos h0]]
    have hzb : ((chkF l).1 != 0) = true := by simpa using h0
    go_enter Tryz.func78, Tryz.ntmps78
    go_wp2_with (go_at_call 124; refine (HC _ HF.out.bel).mono ?_; rintro r w1 ⟨rfl, hb1⟩; have H1 : Hid (FB w w1 w.heap.size) := HF.out.grow hb1; obtain ⟨rs1, rf1, rl1⟩ := cells_of (l := [_, _]) H1.out.res; have r10 := rs1 0 _ rfl; have r11 := rs1 1 _ rfl; have f10 := rf1 0; have f11 := rf1 1; clear rs1 rf1 hb1)
    refine bodyPost_ret (CheckFixed_ends (H1.out.endA _ _ _).1 rfl) rfl ?_
    exact ⟨rfl, (H1.out.endA _ _ _).2⟩
  · have EX : Hid (chkX l = if 0 ≤ ordFrom l 0 then (12, ordFrom l 0) else (0, 0)) := by show _ = _; unfold chkX; rw [if_neg h0]
    have hz : (chkF l).1 = 0 := by omega
    have hl8 := (chkF_ok hz).2.1
    have hl1 := (chkF_ok hz).1
    obtain ⟨ad', c', e, -, hcap, hrow⟩ := HV.out
    cases e
    rcases hrow with h | ⟨b, o, rfl, hrow⟩
    · rw [h] at hl1; simp at hl1
    have HR : Hid (∀ q u, (l.flatMap Ta.vals)[q]? = some u → w.cell? ⟨b, o + q, none⟩ = some u) := hrow
    clear hrow
    go_enter Tryz.func78, Tryz.ntmps78
    go_wp2_with (go_at_call 124; refine (HC _ HF.out.bel).mono ?_; rintro r w1 ⟨rfl, hb1⟩; rw [hz]; have H1 : Hid (FB w (w1.alloc (.cells #[.int .i64 0, .int .i64 (chkF l).2] 30)) w.heap.size) := (HF.out.grow hb1).grow (below_new _ _); clear hb1)
    go_loopw [14] (fun iv wr => ∃ j : Nat, j ≤ l.length ∧ iv = .int .i64 (j : Int) ∧ FB w wr w.heap.size ∧ Hid (ordFrom (l.drop j) j = ordFrom l 0)) (fun iv _ => l.length - (intOf iv).toNat)
    case atStart => exact ⟨0, Nat.zero_le _, rfl, H1.out, rfl⟩
    case round =>
      obtain ⟨j, hjl, rfl, hg, HQ⟩ := hrel
      by_cases hlt : j < l.length
      · obtain ⟨y, hy, hdr⟩ := drop_at hlt
        have hq := HQ.out
        rw [hdr, ordFrom] at hq
        obtain ⟨c0, c1, c2, c3, c4, c5, c6⟩ := ta_at (fun q u hq => below_cell hg.bel (HR.out q u hq)) hy
        have HG : Hid (FB w wr w.heap.size) := hg
        have lb : b < wr.heap.size := World.block_lt_of_cell? _ _ c0
        have hj' : (j : Int) < (l.length : Int) := by omega
        by_cases hz2 : y.t < y.d
        · rw [if_pos hz2] at hq
          have HQ' : Hid ((j : Int) = ordFrom l 0) := hq
          clear hq hg HQ
          go_wp2_with (go_at_call 33; refine (F_any _ _ _).mono ?_; rintro r w2 ⟨rfl, hb2⟩; have H2 : Hid (FB w w2 w.heap.size) := (HG.out.grow (below_new _ _)).grow hb2; obtain ⟨rs1, rf1, rl1⟩ := cells_of (l := [_, _]) H2.out.res; have r10 := rs1 0 _ rfl; have r11 := rs1 1 _ rfl; have f10 := rf1 0; have f11 := rf1 1; clear rs1 rf1 hb2)
          refine bodyPost_ret (CheckFixed_ends (set_two H2.out.res) rfl) rfl ?_
          rw [EX.out, ← HQ'.out, if_pos (by omega)]
          exact ⟨rfl, H2.out.set _ _⟩
        · rw [if_neg hz2] at hq
          have HQ' : Hid (_ = _) := hq
          clear hq hg HQ
          go_wp2_with fail
          exact ⟨⟨j + 1, by omega, by simp, HG.out.grow (below_new _ _), HQ'.out⟩, by simp [intOf]; omega⟩
      · have hje : j = l.length := by omega
        subst hje
        have hq := HQ.out
        rw [List.drop_length, ordFrom] at hq
        have HG : Hid (FB w wr w.heap.size) := hg
        have HQ' : Hid ((-1 : Int) = ordFrom l 0) := hq
        obtain ⟨rs1, rf1, rl1⟩ := cells_of (l := [_, _]) hg.res
        have r10 := rs1 0 _ rfl
        have r11 := rs1 1 _ rfl
        have f10 := rf1 0
        have f11 := rf1 1
        clear rs1 rf1 hq hg HQ
        go_wp2_with fail
        refine bodyPost_ret (CheckFixed_ends (set_two HG.out.res) rfl) rfl ?_
        rw [EX.out, ← HQ'.out, if_neg (by omega)]
        exact ⟨rfl, HG.out.set _ _⟩

set_option maxRecDepth 20000 in
set_option maxHeartbeats 4000000 in
theorem AtWorst_any (w : World) (t : Ta) (os : List Ta) (v : Value) (block : Int) (hl : os.length ≤ 8) (ht : stands t = true) (hs : ∀ x ∈ os, stands x = true) (hb0 : 0 ≤ block) (hb1 : block ≤ 10000) (hv : RowSl Ta.vals w os v) : Calls Tryz.prog 79 #[t.val, v, .int .i64 block] w fun r w' => r = .returned (.int .i64 (wOf (askF (t.c + block) os) t.j t.d)) ∧ Below w.heap.size w w' := by
  obtain ⟨g1, g2, g3, g4, g5, g6, g7, g8, -, -⟩ := stands_t ht
  unfold Ta.val
  clear ht
  obtain ⟨nm, cc, tt, dd, jj, oo, pp⟩ := t
  dsimp only at *
  have HS : Hid (∀ x ∈ os, stands x = true) := hs
  obtain ⟨ad, c, rfl, -, hcap, hrow⟩ := hv
  have HR : Hid _ := hrow
  clear hrow hs
  have HT : Hid (∀ W, Below (w.alloc (.cells #[.string nm, .int .i64 cc, .int .i64 tt, .int .i64 dd, .int .i64 jj, .int .i64 oo, .int .i64 pp] 56)).heap.size (w.alloc (.cells #[.string nm, .int .i64 cc, .int .i64 tt, .int .i64 dd, .int .i64 jj, .int .i64 oo, .int .i64 pp] 56)) W → W.cell? ⟨w.heap.size, 1, none⟩ = some (.int .i64 cc) ∧ W.cell? ⟨w.heap.size, 3, none⟩ = some (.int .i64 dd) ∧ W.cell? ⟨w.heap.size, 4, none⟩ = some (.int .i64 jj)) := fun W hB => ⟨below_cell hB (by go_simp), below_cell hB (by go_simp), below_cell hB (by go_simp)⟩
  have e0 : IntKind.i64.wrap (cc + block) = cc + block := by rw [IntKind.wrap_i64]; omega
  go_enter Tryz.func79, Tryz.ntmps79
  go_wp2_with fail
  go_loopw [7] (fun wv wr => ∃ x : Int, wv = .int .i64 x ∧ Below (w.alloc (.cells #[.string nm, .int .i64 cc, .int .i64 tt, .int .i64 dd, .int .i64 jj, .int .i64 oo, .int .i64 pp] 56)).heap.size (w.alloc (.cells #[.string nm, .int .i64 cc, .int .i64 tt, .int .i64 dd, .int .i64 jj, .int .i64 oo, .int .i64 pp] 56)) wr ∧ 1 ≤ x ∧ x ≤ 10001 ∧ Hid (∀ v, 1 ≤ v → v < x → askF (cc + block) os v ≠ v)) (fun wv _ => (dd + 1 - intOf wv).toNat)
  case atStart => exact ⟨1, rfl, Below.refl _ _, by omega, by omega, fun v h1 h2 => by omega⟩
  case round =>
    obtain ⟨x, rfl, hb, hx1, hx2, HX⟩ := hrel
    obtain ⟨d1, d3, d4⟩ := HT.out _ hb
    have e1 : IntKind.i64.wrap (x + jj) = x + jj := by rw [IntKind.wrap_i64]; omega
    have HB : Hid (Below (w.alloc (.cells #[.string nm, .int .i64 cc, .int .i64 tt, .int .i64 dd, .int .i64 jj, .int .i64 oo, .int .i64 pp] 56)).heap.size (w.alloc (.cells #[.string nm, .int .i64 cc, .int .i64 tt, .int .i64 dd, .int .i64 jj, .int .i64 oo, .int .i64 pp] 56)) wr) := hb
    clear hb
    by_cases hle : x + jj ≤ dd
    · go_wp2_with fail
      go_loopw [8, 26] (fun av iv wl => ∃ (j : Nat) (a : Int), j ≤ os.length ∧ av = .int .i64 a ∧ iv = .int .i64 (j : Int) ∧ Below (w.alloc (.cells #[.string nm, .int .i64 cc, .int .i64 tt, .int .i64 dd, .int .i64 jj, .int .i64 oo, .int .i64 pp] 56)).heap.size (w.alloc (.cells #[.string nm, .int .i64 cc, .int .i64 tt, .int .i64 dd, .int .i64 jj, .int .i64 oo, .int .i64 pp] 56)) wl ∧ 0 ≤ a ∧ a ≤ 20000 + 200000000 * (j : Int) ∧ Hid (a + sumO x (os.drop j) = askF (cc + block) os x)) (fun _ iv _ => os.length - (intOf iv).toNat)
      case atStart => exact ⟨0, cc + block, Nat.zero_le _, rfl, rfl, HB.out, by omega, by omega, rfl⟩
      case round =>
        clear d1 d3 d4
        obtain ⟨j, a, hjl, rfl, rfl, hbl, ha0, ha1, HQ⟩ := hrel
        by_cases hlt : j < os.length
        · obtain ⟨y, hy, hdr⟩ := drop_at hlt
          have hq := HQ.out
          rw [hdr, sumO] at hq
          have hsy := HS.out y (List.mem_of_getElem? hy)
          rcases HR.out with h | ⟨b, o, rfl, hrow⟩
          · rw [h] at hlt; simp at hlt
          obtain ⟨c0, c1, c2, c3, c4, c5, c6⟩ := ta_at (fun q u hq => below_cell (below_seq (below_new _ _) hbl) (hrow q u hq)) hy
          obtain ⟨y1, y2, y3, y4, -, -, y7, y8, -, -⟩ := stands_t hsy
          obtain ⟨u1, u2, u3, u4⟩ := up1_range (w := x) hsy (by omega) (by omega)
          have HL : Hid (Below (w.alloc (.cells #[.string nm, .int .i64 cc, .int .i64 tt, .int .i64 dd, .int .i64 jj, .int .i64 oo, .int .i64 pp] 56)).heap.size (w.alloc (.cells #[.string nm, .int .i64 cc, .int .i64 tt, .int .i64 dd, .int .i64 jj, .int .i64 oo, .int .i64 pp] 56)) wr) := hbl
          have lb : b < wr.heap.size := World.block_lt_of_cell? _ _ c0
          have hj' : (j : Int) < (os.length : Int) := by omega
          have e2 : IntKind.i64.wrap (x + y.j) = x + y.j := by rw [IntKind.wrap_i64]; omega
          have e6 : IntKind.i64.wrap ((x + y.j + y.t - 1) / y.t * y.c) = (x + y.j + y.t - 1) / y.t * y.c := by unfold up1 at u1 u2; rw [IntKind.wrap_i64]; omega
          have e7 : IntKind.i64.wrap (a + (x + y.j + y.t - 1) / y.t * y.c) = a + (x + y.j + y.t - 1) / y.t * y.c := by unfold up1 at u1 u2; rw [IntKind.wrap_i64]; omega
          have HU := fun W => up_any W (x + y.j) y.t (by omega) (by omega) (by omega) (by omega)
          have HQ' : Hid (a + (up1 x y + sumO x (os.drop (j + 1))) = askF (cc + block) os x) := hq
          clear hq hbl HQ hrow
          go_wp2_with fail
          refine wp_region_noPanic ?_
          refine wp_region_held_drew (S := fun w' => w'.cell? ⟨wr.heap.size, 1, none⟩ = some (.int .i64 y.c) ∧ w'.cell? ⟨wr.heap.size, 2, none⟩ = some (.int .i64 y.t) ∧ w'.cell? ⟨wr.heap.size, 4, none⟩ = some (.int .i64 y.j)) (by kernel_rfl) (by refine ⟨?_, ?_, ?_⟩ <;> go_simp) (fun hHeld => ?_)
          refine take_at (i := 0) (n := 30) (v := ?_) rfl rfl (by kernel_rfl) (by kernel_rfl) (by kernel_rfl) (fun _ _ _ h => h) (Or.inl ⟨by rfl, ?_⟩) (by assumption) ?_
          rotate_left 1
          · intro wz hSw
            obtain ⟨k0, k1, k2⟩ := hSw
            first | (go_simp; done) | (go_simp; with_reducible rfl)
          simp only [List.set_cons_zero, List.set_cons_succ]
          refine take_at (i := 1) (n := 31) (v := ?_) rfl rfl (by kernel_rfl) (by kernel_rfl) (by kernel_rfl) (fun _ _ _ h => h) (Or.inl ⟨by rfl, ?_⟩) (by assumption) ?_
          rotate_left 1
          · intro wz hSw
            obtain ⟨k0, k1, k2⟩ := hSw
            first | (go_simp; done) | (go_simp; with_reducible rfl)
          simp only [List.set_cons_zero, List.set_cons_succ]
          refine take_at (i := 2) (n := 32) (v := ?_) rfl rfl (by kernel_rfl) (by kernel_rfl) (by kernel_rfl) (fun _ _ _ h => h) (Or.inl ⟨by rfl, ?_⟩) (by assumption) ?_
          rotate_left 1
          · intro wz hSw
            obtain ⟨k0, k1, k2⟩ := hSw
            first | (go_simp; done) | (go_simp; with_reducible rfl)
          simp only [List.set_cons_zero, List.set_cons_succ]
          refine take_at (i := 3) (n := 33) (v := ?_) rfl rfl (by kernel_rfl) (by kernel_rfl) (by kernel_rfl) (fun _ _ _ h => h) (Or.inl ⟨by rfl, ?_⟩) (by assumption) ?_
          rotate_left 1
          · intro wz hSw
            obtain ⟨k0, k1, k2⟩ := hSw
            first | (go_simp; done) | (go_simp; with_reducible rfl)
          simp only [List.set_cons_zero, List.set_cons_succ]
          refine take_at (i := 4) (n := 34) (v := ?_) rfl rfl (by kernel_rfl) (by kernel_rfl) (by kernel_rfl) (fun _ _ _ h => h) (Or.inl ⟨by rfl, ?_⟩) (by assumption) ?_
          rotate_left 1
          · intro wz hSw
            obtain ⟨k0, k1, k2⟩ := hSw
            first | (go_simp; done) | (go_simp; with_reducible rfl)
          simp only [List.set_cons_zero, List.set_cons_succ]
          refine take_at (i := 5) (n := 35) (v := ?_) rfl rfl (by kernel_rfl) (by kernel_rfl) (by kernel_rfl) (fun _ _ _ h => h) (Or.inl ⟨by rfl, ?_⟩) (by assumption) ?_
          rotate_left 1
          · intro wz hSw
            obtain ⟨k0, k1, k2⟩ := hSw
            first | (go_simp; done) | (go_simp; with_reducible rfl)
          simp only [List.set_cons_zero, List.set_cons_succ]
          refine take_at (i := 6) (n := 36) (v := ?_) rfl rfl (by kernel_rfl) (by kernel_rfl) (by kernel_rfl) (fun _ _ _ h => h) (Or.inl ⟨by rfl, ?_⟩) (by assumption) ?_
          rotate_left 1
          · intro wz hSw
            obtain ⟨k0, k1, k2⟩ := hSw
            first | (go_simp; done) | (go_simp; with_reducible rfl)
          simp only [List.set_cons_zero, List.set_cons_succ]
          refine take_at (i := 8) (n := 38) (v := ?_) rfl rfl (by kernel_rfl) (by kernel_rfl) (by kernel_rfl) (fun _ _ _ h => h) (Or.inl ⟨by rfl, ?_⟩) (by assumption) ?_
          rotate_left 1
          · intro wz hSw
            obtain ⟨k0, k1, k2⟩ := hSw
            first | (go_simp; done) | (go_simp; with_reducible rfl)
          simp only [List.set_cons_zero, List.set_cons_succ]
          refine take_at (i := 9) (n := 39) (v := ?_) rfl rfl (by kernel_rfl) (by kernel_rfl) (by kernel_rfl) (fun _ _ _ h => h) (Or.inl ⟨by rfl, ?_⟩) (by assumption) ?_
          rotate_left 1
          · intro wz hSw
            obtain ⟨k0, k1, k2⟩ := hSw
            first | (go_simp; done) | (go_simp; with_reducible rfl)
          simp only [List.set_cons_zero, List.set_cons_succ]
          refine wpAnyH_ready (rs := [7]) (by kernel_rfl) (by simp) ?_
          refine AllReadyH.cons rfl (fun K hK => ?_) AllReadyH.nil
          go_wp2_with (go_at_call 48; refine (HU _).mono ?_; rintro r w1 ⟨rfl, rfl⟩)
          refine hK.out _ _ (by refine ⟨?_, ?_, ?_⟩ <;> go_simp) (fun hHeld => ?_)
          clear hK K HU
          refine take_at (i := 10) (n := 40) (v := ?_) rfl rfl (by kernel_rfl) (by kernel_rfl) (by kernel_rfl) (fun _ _ _ h => h) (Or.inl ⟨by rfl, ?_⟩) (by assumption) ?_
          rotate_left 1
          · intro wz hSw
            first | (go_simp; done) | (go_simp; with_reducible rfl)
          simp only [List.set_cons_zero, List.set_cons_succ]
          refine take_at (i := 11) (n := 41) (v := ?_) rfl rfl (by kernel_rfl) (by kernel_rfl) (by kernel_rfl) (fun _ _ _ h => h) (Or.inl ⟨by rfl, ?_⟩) (by assumption) ?_
          rotate_left 1
          · intro wz hSw
            first | (go_simp; done) | (go_simp; with_reducible rfl)
          simp only [List.set_cons_zero, List.set_cons_succ]
          refine take_at (i := 12) (n := 8) (v := ?_) rfl rfl (by kernel_rfl) (by kernel_rfl) (by kernel_rfl) (fun _ _ _ h => h) (Or.inl ⟨by rfl, ?_⟩) (by assumption) ?_
          rotate_left 1
          · intro wz hSw
            first | (go_simp; done) | (go_simp; with_reducible rfl)
          simp only [List.set_cons_zero, List.set_cons_succ]
          refine wpAnyH_done (by kernel_rfl) ?_ _
          refine NoPanic.normal ?_
          clear hHeld
          go_wp2_with fail
          exact ⟨⟨j + 1, a + up1 x y, by omega, rfl, by simp, by first | exact (below_seq HL.out (below_new _ _)).drew | exact below_seq HL.out (below_new _ _), by omega, by omega, by have := HQ'.out; show _ = _; omega⟩, by simp [intOf]; omega⟩
        · have hje : j = os.length := by omega
          subst hje
          have hq := HQ.out
          rw [List.drop_length, sumO, Int.add_zero] at hq
          have HL : Hid (Below (w.alloc (.cells #[.string nm, .int .i64 cc, .int .i64 tt, .int .i64 dd, .int .i64 jj, .int .i64 oo, .int .i64 pp] 56)).heap.size (w.alloc (.cells #[.string nm, .int .i64 cc, .int .i64 tt, .int .i64 dd, .int .i64 jj, .int .i64 oo, .int .i64 pp] 56)) wr) := hbl
          obtain ⟨d1, d3, d4⟩ := HT.out _ hbl
          have HQ' : Hid (a = askF (cc + block) os x) := hq
          clear hq hbl HQ
          by_cases hfx : a = x
          · subst hfx
            go_wp2_with fail
            go_ret
            have e : wOf (askF (cc + block) os) jj dd = a + jj := wOf_hit (by omega) hx1 hle HQ'.out.symm HX.out
            exact ⟨by rw [e]; rfl, below_seq (below_new _ _) HL.out⟩
          · have hfb : (a == x) = false := by simp [hfx]
            have e9 : IntKind.i64.wrap (x + 1) = x + 1 := by rw [IntKind.wrap_i64]; omega
            go_wp2_with fail
            refine ⟨⟨x + 1, rfl, HL.out, by omega, by omega, fun v h1 h2 he => ?_⟩, by simp [intOf]; omega⟩
            by_cases hvx : v = x
            · subst hvx
              exact hfx (HQ'.out.trans he)
            · exact HX.out v h1 (by omega) he
    · go_wp2_with fail
      go_ret
      have e : wOf (askF (cc + block) os) jj dd = 0 := wOf_none fun v h1 h2 he => HX.out v h1 (by omega) he
      exact ⟨by rw [e]; rfl, below_seq (below_new _ _) HB.out⟩
end Go.Proofs.YtccoobcggbbciaiGreatDoor
namespace Go.Proofs.YtccoobcggbbciaiGreatDoor
open Go.ChangeShapes Go.WideShapes Go.ChangeAt Go.RowKit

theorem ResponseOf_ends {w : World} {g : Nat} {c k p : Value} {a : Act} (h : w.heap[g]? = some (.cells #[c, k] 30 (0, 0))) (h2 : a.tmps[6]?.getD undef = p) (h3 : a.tmps[7]?.getD undef = .pointer (some ⟨g, 0, none⟩)) :
    (results Tryz.f45 a.tmps).run Tryz.prog w = .ok (.tuple #[p, .agg #[c, k]]) w := by
  obtain ⟨c1, f1, l1⟩ := cells_of (l := [_, _]) h
  have c10 := c1 0 _ rfl
  have c11 := c1 1 _ rfl
  simp [results, Tryz.results45, go_sem, h2, h3, c10, c11]

set_option maxRecDepth 20000 in
set_option maxHeartbeats 4000000 in
theorem ResponseOf_any (w : World) (l : List Ta) (v : Value) (i block : Int) (hS : ∀ x ∈ l, x.nm.size ≤ 9223372036854775807) (hv : RowSl Ta.vals w l v) : Calls Tryz.prog 45 #[v, .int .i64 i, .int .i64 block] w fun r w' => r = .returned (.tuple #[.int .i64 (responseF l i block).1, .agg #[.int .i64 (responseF l i block).2.1, .int .i64 (responseF l i block).2.2]]) ∧ Below w.heap.size w w' := by
  obtain ⟨ad, c, rfl⟩ := hv.len
  have HV : Hid (RowSl Ta.vals w l (.slice ad l.length c)) := hv
  have HF : Hid (FB w (w.alloc (.cells #[.int .i64 0, .int .i64 0] 30)) w.heap.size) := FB.start w
  have HC := CheckFixed_any (w.alloc (.cells #[.int .i64 0, .int .i64 0] 30)) l (.slice ad l.length c) hS (HV.out.below (below_new _ _))
  by_cases h0 : (chkX l).1 ≠ 0
  · rw [show responseF l i block = (0, chkX l) by unfold responseF; rw [if_pos h0]]
    clear hv
    generalize (chkX l).1 = z at *
    generalize (chkX l).2 = z2 at *
    have hzb : (z != 0) = true := by simpa using h0
    go_enter Tryz.func45, Tryz.ntmps45
    go_wp2_with (go_at_call 78; refine HC.mono ?_; rintro r w1 ⟨rfl, hb1⟩; have H1 : Hid (FB w w1 w.heap.size) := HF.out.grow hb1; obtain ⟨rs1, rf1, rl1⟩ := cells_of (l := [_, _]) H1.out.res; have r10 := rs1 0 _ rfl; have r11 := rs1 1 _ rfl; have f10 := rf1 0; have f11 := rf1 1; clear rs1 rf1 hb1 HC)
    go_region
    all_goals go_wp2_with fail
    all_goals
      refine bodyPost_ret (ResponseOf_ends (H1.out.endA (.int .i64 z) (.int .i64 z2) _).1 rfl rfl) rfl ?_
      exact ⟨rfl, (H1.out.endA (.int .i64 z) (.int .i64 z2) _).2.drew⟩
  · have hz : (chkX l).1 = 0 := by omega
    obtain ⟨-, -, hl1, h8, hst, -⟩ := chkX_ok hz
    rw [show responseF l i block = respF l i block by unfold responseF; rw [if_neg h0]]
    rw [hz] at HC
    have HS : Hid (∀ x ∈ l, stands x = true) := hst
    generalize (chkX l).2 = z2 at *
    obtain ⟨ad', c', e, -, hcap, hrow⟩ := hv
    cases e
    rcases hrow with h | ⟨b, o, rfl, hrow⟩
    · rw [h] at hl1; simp at hl1
    have HR : Hid (∀ q u, (l.flatMap Ta.vals)[q]? = some u → w.cell? ⟨b, o + q, none⟩ = some u) := hrow
    clear hst hS hrow h0
    by_cases hr : i < 0 ∨ (l.length : Int) ≤ i ∨ block < 0 ∨ 10000 < block
    · rw [show respF l i block = (0, (3, 0)) by unfold respF; rw [if_pos hr]]
      go_enter Tryz.func45, Tryz.ntmps45
      go_wp2_with (go_at_call 78; refine HC.mono ?_; rintro r w1 ⟨rfl, hb1⟩; have H1 : Hid (FB w (w1.alloc (.cells #[.int .i64 0, .int .i64 z2] 30)) w.heap.size) := (HF.out.grow hb1).grow (below_new _ _); clear hb1 HC)
      all_goals try (exfalso; omega)
      all_goals go_wp2_with (go_at_call 33; refine (F_any _ _ _).mono ?_; rintro r w3 ⟨rfl, hb3⟩; have H3 : Hid (FB w w3 w.heap.size) := H1.out.grow hb3; obtain ⟨rs1, rf1, rl1⟩ := cells_of (l := [_, _]) H3.out.res; have s10 := rs1 0 _ rfl; have s11 := rs1 1 _ rfl; have t10 := rf1 0; have t11 := rf1 1; clear rs1 rf1 hb3)
      all_goals
        first
          | (refine bodyPost_ret (ResponseOf_ends (set_two H3.out.res) rfl rfl) rfl ?_
             exact ⟨rfl, H3.out.set _ _⟩)
          | fail
    · obtain ⟨n, rfl⟩ : ∃ n : Nat, i = (n : Int) := ⟨i.toNat, by omega⟩
      have d1 : decide ((n : Int) < 0) = false := by first | (simp; done) | (simp; omega)
      have d2 : decide ((l.length : Int) ≤ (n : Int)) = false := by first | (simp; done) | (simp; omega)
      have d2' : decide (l.length ≤ n) = false := by first | (simp; done) | (simp; omega)
      have d3 : decide (block < 0) = false := by first | (simp; done) | (simp; omega)
      have d4 : decide (10000 < block) = false := by first | (simp; done) | (simp; omega)
      have hnl : n < l.length := by omega
      have hbl : 0 ≤ block ∧ block ≤ 10000 := by omega
      have er : Hid (respF l (n : Int) block = if respR l n block = 0 then (0, (13, (n : Int))) else (respR l n block, (0, 0))) := by
        show _ = _
        unfold respF
        rw [if_neg hr, Int.toNat_natCast]
      have HW : Hid (∀ W, Below w.heap.size w W → ∀ u, RowSl Ta.vals W (othF (aheadP l n) n l 0) u → Calls Tryz.prog 79 #[(Tk l n).val, u, .int .i64 block] W fun r w' => r = .returned (.int .i64 (respR l n block)) ∧ Below W.heap.size W w') := fun W _ u hu => AtWorst_any W (Tk l n) _ u block (Nat.le_trans (othF_len l 0) h8) (stands_mem HS.out hnl) (fun x hx => HS.out x (othF_mem l 0 x hx)) hbl.1 hbl.2 hu
      have HP : Hid (0 ≤ respR l n block ∧ respR l n block ≤ 10000) := by
        obtain ⟨g1, g2, g3, g4, g5, g6, g7, g8, -, -⟩ := stands_t (stands_mem HS.out hnl)
        have := wOf_range (ask := askF ((Tk l n).c + block) (othF (aheadP l n) n l 0)) g7 (show 0 ≤ (Tk l n).d by omega)
        show _ ∧ _
        unfold respR worstF
        omega
      clear hr
      have hn' : (n : Int) < (l.length : Int) := by omega
      go_enter Tryz.func45, Tryz.ntmps45
      go_wp2_with (go_at_call 78; refine HC.mono ?_; rintro r w1 ⟨rfl, hb1⟩; have H1 : Hid (FB w (w1.alloc (.cells #[.int .i64 0, .int .i64 z2] 30)) w.heap.size) := (HF.out.grow hb1).grow (below_new _ _); clear hb1 HC)
      go_loopw [9, 38] (fun av iv wr => ∃ (j : Nat) (acc : List Ta), j ≤ l.length ∧ iv = .int .i64 (j : Int) ∧ acc.length ≤ j ∧ TO w wr w.heap.size acc av ∧ Hid (acc ++ othF (aheadP l n) n (l.drop j) j = othF (aheadP l n) n l 0)) (fun _ iv _ => l.length - (intOf iv).toNat)
      case atStart => exact ⟨0, [], Nat.zero_le _, rfl, by simp, TO.start H1.out, rfl⟩
      case round =>
        obtain ⟨j, acc, hjl, rfl, hac, hno, HQ⟩ := hrel
        obtain ⟨ad5, c5, rfl⟩ := hno.val
        have HN : Hid (TO w wr w.heap.size acc (.slice ad5 acc.length c5)) := hno
        by_cases hlt : j < l.length
        · obtain ⟨y, hy, hdr⟩ := drop_at hlt
          have hq := HQ.out
          rw [othF_at hdr] at hq
          have HTk : Tk l j = y := Tk_at hy
          obtain ⟨c0, c1, c2, c3, c4, c5', c6⟩ := ta_at (fun q u hq => below_cell hno.fb.bel (HR.out q u hq)) hy
          obtain ⟨-, -, -, -, -, -, i6⟩ := ta_at (fun q u hq => below_cell hno.fb.bel (HR.out q u hq)) (Tk_get hnl)
          have lb : b < wr.heap.size := World.block_lt_of_cell? _ _ c0
          have hj' : (j : Int) < (l.length : Int) := by omega
          by_cases hjn : j = n
          · rw [if_neg (by simp [hjn])] at hq
            have HQ' : Hid (_ = _) := hq
            have hb' : ((j : Int) != (n : Int)) = false := by simp [hjn]
            clear hq HQ hno hjn HTk
            go_wp2_with fail
            refine wp_region_noPanic ?_
            refine wp_region_held_drew (S := fun w' => w'.cell? ⟨wr.heap.size, 6, none⟩ = some (.int .i64 y.p) ∧ w'.cell? ⟨b, o + n * 7 + 6, none⟩ = some (.int .i64 (Tk l n).p)) (by kernel_rfl) (by refine ⟨?_, ?_⟩ <;> go_simp) (fun hHeld => ?_)
            refine take_at (i := 0) (n := 43) (v := ?_) rfl rfl (by kernel_rfl) (by kernel_rfl) (by kernel_rfl) (fun _ _ _ h => h) (Or.inl ⟨by rfl, ?_⟩) (by assumption) ?_
            rotate_left 1
            · intro wz hSw
              obtain ⟨k0, k1⟩ := hSw
              first | (go_simp; done) | (go_simp; with_reducible rfl)
            simp only [List.set_cons_zero, List.set_cons_succ]
            refine take_at (i := 1) (n := 44) (v := ?_) rfl rfl (by kernel_rfl) (by kernel_rfl) (by kernel_rfl) (fun _ _ _ h => h) (Or.inl ⟨by rfl, ?_⟩) (by assumption) ?_
            rotate_left 1
            · intro wz hSw
              obtain ⟨k0, k1⟩ := hSw
              first | (go_simp; done) | (go_simp; with_reducible rfl)
            simp only [List.set_cons_zero, List.set_cons_succ]
            refine take_at (i := 2) (n := 45) (v := ?_) rfl rfl (by kernel_rfl) (by kernel_rfl) (by kernel_rfl) (fun _ _ _ h => h) (Or.inl ⟨by rfl, ?_⟩) (by assumption) ?_
            rotate_left 1
            · intro wz hSw
              obtain ⟨k0, k1⟩ := hSw
              first | (go_simp; done) | (go_simp; with_reducible rfl)
            simp only [List.set_cons_zero, List.set_cons_succ]
            refine take_at (i := 3) (n := 46) (v := ?_) rfl rfl (by kernel_rfl) (by kernel_rfl) (by kernel_rfl) (fun _ _ _ h => h) (Or.inl ⟨by rfl, ?_⟩) (by assumption) ?_
            rotate_left 1
            · intro wz hSw
              obtain ⟨k0, k1⟩ := hSw
              first | (go_simp; done) | (go_simp; with_reducible rfl)
            simp only [List.set_cons_zero, List.set_cons_succ]
            refine take_at (i := 4) (n := 47) (v := undef) rfl rfl (by kernel_rfl) (by kernel_rfl) (by kernel_rfl) (fun _ _ _ h => h) (Or.inr ⟨by rfl, rfl⟩) (by assumption) ?_
            simp only [List.set_cons_zero, List.set_cons_succ]
            refine take_at (i := 5) (n := 48) (v := undef) rfl rfl (by kernel_rfl) (by kernel_rfl) (by kernel_rfl) (fun _ _ _ h => h) (Or.inr ⟨by rfl, rfl⟩) (by assumption) ?_
            simp only [List.set_cons_zero, List.set_cons_succ]
            refine take_at (i := 6) (n := 49) (v := undef) rfl rfl (by kernel_rfl) (by kernel_rfl) (by kernel_rfl) (fun _ _ _ h => h) (Or.inr ⟨by rfl, rfl⟩) (by assumption) ?_
            simp only [List.set_cons_zero, List.set_cons_succ]
            refine take_at (i := 7) (n := 50) (v := undef) rfl rfl (by kernel_rfl) (by kernel_rfl) (by kernel_rfl) (fun _ _ _ h => h) (Or.inr ⟨by rfl, rfl⟩) (by assumption) ?_
            simp only [List.set_cons_zero, List.set_cons_succ]
            refine take_at (i := 8) (n := 51) (v := undef) rfl rfl (by kernel_rfl) (by kernel_rfl) (by kernel_rfl) (fun _ _ _ h => h) (Or.inr ⟨by rfl, rfl⟩) (by assumption) ?_
            simp only [List.set_cons_zero, List.set_cons_succ]
            refine take_at (i := 9) (n := 52) (v := undef) rfl rfl (by kernel_rfl) (by kernel_rfl) (by kernel_rfl) (fun _ _ _ h => h) (Or.inr ⟨by rfl, rfl⟩) (by assumption) ?_
            simp only [List.set_cons_zero, List.set_cons_succ]
            refine take_at (i := 10) (n := 53) (v := undef) rfl rfl (by kernel_rfl) (by kernel_rfl) (by kernel_rfl) (fun _ _ _ h => h) (Or.inr ⟨by rfl, rfl⟩) (by assumption) ?_
            simp only [List.set_cons_zero, List.set_cons_succ]
            refine take_at (i := 11) (n := 54) (v := undef) rfl rfl (by kernel_rfl) (by kernel_rfl) (by kernel_rfl) (fun _ _ _ h => h) (Or.inr ⟨by rfl, rfl⟩) (by assumption) ?_
            simp only [List.set_cons_zero, List.set_cons_succ]
            refine take_at (i := 12) (n := 55) (v := ?_) rfl rfl (by kernel_rfl) (by kernel_rfl) (by kernel_rfl) (fun _ _ _ h => h) (Or.inl ⟨by rfl, ?_⟩) (by assumption) ?_
            rotate_left 1
            · intro wz hSw
              obtain ⟨k0, k1⟩ := hSw
              first | (go_simp; done) | (go_simp; with_reducible rfl)
            simp only [List.set_cons_zero, List.set_cons_succ]
            refine wpAnyH_done (by kernel_rfl) ?_ _
            refine NoPanic.normal ?_
            clear hHeld
            go_wp2_with fail
            all_goals
              first
                | exact ⟨⟨j + 1, acc, by omega, by simp, by omega, (HN.out.grow (below_new _ _)).grow (Below.refl _ _).drew, HQ'.out⟩, by simp [intOf]; omega⟩
                | fail
          · have hb' : ((j : Int) != (n : Int)) = true := by simp; omega
            by_cases hp : (Tk l n).p ≤ y.p
            · rw [if_pos ⟨hjn, by unfold aheadP; rw [HTk]; simp [hp]⟩] at hq
              have HQ' : Hid ((acc ++ [y]) ++ othF (aheadP l n) n (l.drop (j + 1)) (j + 1) = othF (aheadP l n) n l 0) := by
                show _ = _
                rw [List.append_assoc]
                exact hq
              have hdp : decide ((Tk l n).p ≤ y.p) = true := by simp [hp]
              obtain ⟨ad9, c9, w9, hrun, ho9⟩ := TO.push ((HN.out.grow (below_new wr (.cells #[.string y.nm, .int .i64 y.c, .int .i64 y.t, .int .i64 y.d, .int .i64 y.j, .int .i64 y.o, .int .i64 y.p] 56))).grow (Below.refl _ _).drew) y (by omega)
              rw [show ((wr.alloc (.cells #[.string y.nm, .int .i64 y.c, .int .i64 y.t, .int .i64 y.d, .int .i64 y.j, .int .i64 y.o, .int .i64 y.p] 56)).drew).heap.size = wr.heap.size + 1 by simp] at hrun
              have H9 : Hid (TO w w9 w.heap.size (acc ++ [y]) (.slice ad9 (acc.length + 1) c9)) := ho9
              clear hq HQ hno hjn HTk ho9
              generalize (Tk l n).p = pn at *
              go_wp2_with fail
              refine wp_region_noPanic ?_
              refine wp_region_held_drew (S := fun w' => w'.cell? ⟨wr.heap.size, 6, none⟩ = some (.int .i64 y.p) ∧ w'.cell? ⟨b, o + n * 7 + 6, none⟩ = some (.int .i64 pn)) (by kernel_rfl) (by refine ⟨?_, ?_⟩ <;> go_simp) (fun hHeld => ?_)
              refine take_at (i := 0) (n := 43) (v := ?_) rfl rfl (by kernel_rfl) (by kernel_rfl) (by kernel_rfl) (fun _ _ _ h => h) (Or.inl ⟨by rfl, ?_⟩) (by assumption) ?_
              rotate_left 1
              · intro wz hSw
                obtain ⟨k0, k1⟩ := hSw
                first | (go_simp; done) | (go_simp; with_reducible rfl)
              simp only [List.set_cons_zero, List.set_cons_succ]
              refine take_at (i := 1) (n := 44) (v := ?_) rfl rfl (by kernel_rfl) (by kernel_rfl) (by kernel_rfl) (fun _ _ _ h => h) (Or.inl ⟨by rfl, ?_⟩) (by assumption) ?_
              rotate_left 1
              · intro wz hSw
                obtain ⟨k0, k1⟩ := hSw
                first | (go_simp; done) | (go_simp; with_reducible rfl)
              simp only [List.set_cons_zero, List.set_cons_succ]
              refine take_at (i := 2) (n := 45) (v := ?_) rfl rfl (by kernel_rfl) (by kernel_rfl) (by kernel_rfl) (fun _ _ _ h => h) (Or.inl ⟨by rfl, ?_⟩) (by assumption) ?_
              rotate_left 1
              · intro wz hSw
                obtain ⟨k0, k1⟩ := hSw
                first | (go_simp; done) | (go_simp; with_reducible rfl)
              simp only [List.set_cons_zero, List.set_cons_succ]
              refine take_at (i := 3) (n := 46) (v := ?_) rfl rfl (by kernel_rfl) (by kernel_rfl) (by kernel_rfl) (fun _ _ _ h => h) (Or.inl ⟨by rfl, ?_⟩) (by assumption) ?_
              rotate_left 1
              · intro wz hSw
                obtain ⟨k0, k1⟩ := hSw
                first | (go_simp; done) | (go_simp; with_reducible rfl)
              simp only [List.set_cons_zero, List.set_cons_succ]
              refine take_at (i := 4) (n := 47) (v := ?_) rfl rfl (by kernel_rfl) (by kernel_rfl) (by kernel_rfl) (fun _ _ _ h => h) (Or.inl ⟨by rfl, ?_⟩) (by assumption) ?_
              rotate_left 1
              · intro wz hSw
                obtain ⟨k0, k1⟩ := hSw
                first | (go_simp; done) | (go_simp; with_reducible rfl)
              simp only [List.set_cons_zero, List.set_cons_succ]
              refine take_at (i := 5) (n := 48) (v := ?_) rfl rfl (by kernel_rfl) (by kernel_rfl) (by kernel_rfl) (fun _ _ _ h => h) (Or.inl ⟨by rfl, ?_⟩) (by assumption) ?_
              rotate_left 1
              · intro wz hSw
                obtain ⟨k0, k1⟩ := hSw
                first | (go_simp; done) | (go_simp; with_reducible rfl)
              simp only [List.set_cons_zero, List.set_cons_succ]
              refine take_at (i := 6) (n := 49) (v := ?_) rfl rfl (by kernel_rfl) (by kernel_rfl) (by kernel_rfl) (fun _ _ _ h => h) (Or.inl ⟨by rfl, ?_⟩) (by assumption) ?_
              rotate_left 1
              · intro wz hSw
                obtain ⟨k0, k1⟩ := hSw
                first | (go_simp; done) | (go_simp; with_reducible rfl)
              simp only [List.set_cons_zero, List.set_cons_succ]
              refine take_at (i := 7) (n := 50) (v := ?_) rfl rfl (by kernel_rfl) (by kernel_rfl) (by kernel_rfl) (fun _ _ _ h => h) (Or.inl ⟨by rfl, ?_⟩) (by assumption) ?_
              rotate_left 1
              · intro wz hSw
                obtain ⟨k0, k1⟩ := hSw
                first | (go_simp; done) | (go_simp; with_reducible rfl)
              simp only [List.set_cons_zero, List.set_cons_succ]
              refine take_at (i := 8) (n := 51) (v := ?_) rfl rfl (by kernel_rfl) (by kernel_rfl) (by kernel_rfl) (fun _ _ _ h => h) (Or.inl ⟨by rfl, ?_⟩) (by assumption) ?_
              rotate_left 1
              · intro wz hSw
                obtain ⟨k0, k1⟩ := hSw
                first | (go_simp; done) | (go_simp; with_reducible rfl)
              simp only [List.set_cons_zero, List.set_cons_succ]
              refine take_at (i := 9) (n := 52) (v := ?_) rfl rfl (by kernel_rfl) (by kernel_rfl) (by kernel_rfl) (fun _ _ _ h => h) (Or.inl ⟨by rfl, ?_⟩) (by assumption) ?_
              rotate_left 1
              · intro wz hSw
                obtain ⟨k0, k1⟩ := hSw
                first | (go_simp; done) | (go_simp; with_reducible rfl)
              simp only [List.set_cons_zero, List.set_cons_succ]
              refine take_at (i := 10) (n := 53) (v := ?_) rfl rfl (by kernel_rfl) (by kernel_rfl) (by kernel_rfl) (fun _ _ _ h => h) (Or.inl ⟨by rfl, ?_⟩) (by assumption) ?_
              rotate_left 1
              · intro wz hSw
                obtain ⟨k0, k1⟩ := hSw
                first | (go_simp; done) | (go_simp; with_reducible rfl)
              simp only [List.set_cons_zero, List.set_cons_succ]
              refine take_at (i := 11) (n := 54) (v := ?_) rfl rfl (by kernel_rfl) (by kernel_rfl) (by kernel_rfl) (fun _ _ _ h => h) (Or.inl ⟨by rfl, ?_⟩) (by assumption) ?_
              rotate_left 1
              · intro wz hSw
                obtain ⟨k0, k1⟩ := hSw
                first | (go_simp; done) | (go_simp; with_reducible rfl)
              simp only [List.set_cons_zero, List.set_cons_succ]
              refine take_at (i := 12) (n := 55) (v := ?_) rfl rfl (by kernel_rfl) (by kernel_rfl) (by kernel_rfl) (fun _ _ _ h => h) (Or.inl ⟨by rfl, ?_⟩) (by assumption) ?_
              rotate_left 1
              · intro wz hSw
                obtain ⟨k0, k1⟩ := hSw
                first | (go_simp; done) | (go_simp; with_reducible rfl)
              simp only [List.set_cons_zero, List.set_cons_succ]
              refine wpAnyH_done (by kernel_rfl) ?_ _
              refine NoPanic.normal ?_
              clear hHeld
              go_wp2_with (at_builtin; refine append_known rfl (.tmp 56) (.tmp 58) 52 rfl rfl rfl hrun ?_)
              all_goals
                first
                  | exact ⟨⟨j + 1, acc ++ [y], by omega, by simp, by simp; omega, H9.out, HQ'.out⟩, by simp [intOf]; omega⟩
                  | fail
            · rw [if_neg (by unfold aheadP; rw [HTk]; simp [hp])] at hq
              have HQ' : Hid (_ = _) := hq
              have hdp : decide ((Tk l n).p ≤ y.p) = false := by simp [hp]
              clear hq HQ hno hjn HTk
              generalize (Tk l n).p = pn at *
              go_wp2_with fail
              refine wp_region_noPanic ?_
              refine wp_region_held_drew (S := fun w' => w'.cell? ⟨wr.heap.size, 6, none⟩ = some (.int .i64 y.p) ∧ w'.cell? ⟨b, o + n * 7 + 6, none⟩ = some (.int .i64 pn)) (by kernel_rfl) (by refine ⟨?_, ?_⟩ <;> go_simp) (fun hHeld => ?_)
              refine take_at (i := 0) (n := 43) (v := ?_) rfl rfl (by kernel_rfl) (by kernel_rfl) (by kernel_rfl) (fun _ _ _ h => h) (Or.inl ⟨by rfl, ?_⟩) (by assumption) ?_
              rotate_left 1
              · intro wz hSw
                obtain ⟨k0, k1⟩ := hSw
                first | (go_simp; done) | (go_simp; with_reducible rfl)
              simp only [List.set_cons_zero, List.set_cons_succ]
              refine take_at (i := 1) (n := 44) (v := ?_) rfl rfl (by kernel_rfl) (by kernel_rfl) (by kernel_rfl) (fun _ _ _ h => h) (Or.inl ⟨by rfl, ?_⟩) (by assumption) ?_
              rotate_left 1
              · intro wz hSw
                obtain ⟨k0, k1⟩ := hSw
                first | (go_simp; done) | (go_simp; with_reducible rfl)
              simp only [List.set_cons_zero, List.set_cons_succ]
              refine take_at (i := 2) (n := 45) (v := ?_) rfl rfl (by kernel_rfl) (by kernel_rfl) (by kernel_rfl) (fun _ _ _ h => h) (Or.inl ⟨by rfl, ?_⟩) (by assumption) ?_
              rotate_left 1
              · intro wz hSw
                obtain ⟨k0, k1⟩ := hSw
                first | (go_simp; done) | (go_simp; with_reducible rfl)
              simp only [List.set_cons_zero, List.set_cons_succ]
              refine take_at (i := 3) (n := 46) (v := ?_) rfl rfl (by kernel_rfl) (by kernel_rfl) (by kernel_rfl) (fun _ _ _ h => h) (Or.inl ⟨by rfl, ?_⟩) (by assumption) ?_
              rotate_left 1
              · intro wz hSw
                obtain ⟨k0, k1⟩ := hSw
                first | (go_simp; done) | (go_simp; with_reducible rfl)
              simp only [List.set_cons_zero, List.set_cons_succ]
              refine take_at (i := 4) (n := 47) (v := ?_) rfl rfl (by kernel_rfl) (by kernel_rfl) (by kernel_rfl) (fun _ _ _ h => h) (Or.inl ⟨by rfl, ?_⟩) (by assumption) ?_
              rotate_left 1
              · intro wz hSw
                obtain ⟨k0, k1⟩ := hSw
                first | (go_simp; done) | (go_simp; with_reducible rfl)
              simp only [List.set_cons_zero, List.set_cons_succ]
              refine take_at (i := 5) (n := 48) (v := ?_) rfl rfl (by kernel_rfl) (by kernel_rfl) (by kernel_rfl) (fun _ _ _ h => h) (Or.inl ⟨by rfl, ?_⟩) (by assumption) ?_
              rotate_left 1
              · intro wz hSw
                obtain ⟨k0, k1⟩ := hSw
                first | (go_simp; done) | (go_simp; with_reducible rfl)
              simp only [List.set_cons_zero, List.set_cons_succ]
              refine take_at (i := 6) (n := 49) (v := ?_) rfl rfl (by kernel_rfl) (by kernel_rfl) (by kernel_rfl) (fun _ _ _ h => h) (Or.inl ⟨by rfl, ?_⟩) (by assumption) ?_
              rotate_left 1
              · intro wz hSw
                obtain ⟨k0, k1⟩ := hSw
                first | (go_simp; done) | (go_simp; with_reducible rfl)
              simp only [List.set_cons_zero, List.set_cons_succ]
              refine take_at (i := 7) (n := 50) (v := ?_) rfl rfl (by kernel_rfl) (by kernel_rfl) (by kernel_rfl) (fun _ _ _ h => h) (Or.inl ⟨by rfl, ?_⟩) (by assumption) ?_
              rotate_left 1
              · intro wz hSw
                obtain ⟨k0, k1⟩ := hSw
                first | (go_simp; done) | (go_simp; with_reducible rfl)
              simp only [List.set_cons_zero, List.set_cons_succ]
              refine take_at (i := 8) (n := 51) (v := ?_) rfl rfl (by kernel_rfl) (by kernel_rfl) (by kernel_rfl) (fun _ _ _ h => h) (Or.inl ⟨by rfl, ?_⟩) (by assumption) ?_
              rotate_left 1
              · intro wz hSw
                obtain ⟨k0, k1⟩ := hSw
                first | (go_simp; done) | (go_simp; with_reducible rfl)
              simp only [List.set_cons_zero, List.set_cons_succ]
              refine take_at (i := 9) (n := 52) (v := ?_) rfl rfl (by kernel_rfl) (by kernel_rfl) (by kernel_rfl) (fun _ _ _ h => h) (Or.inl ⟨by rfl, ?_⟩) (by assumption) ?_
              rotate_left 1
              · intro wz hSw
                obtain ⟨k0, k1⟩ := hSw
                first | (go_simp; done) | (go_simp; with_reducible rfl)
              simp only [List.set_cons_zero, List.set_cons_succ]
              refine take_at (i := 10) (n := 53) (v := ?_) rfl rfl (by kernel_rfl) (by kernel_rfl) (by kernel_rfl) (fun _ _ _ h => h) (Or.inl ⟨by rfl, ?_⟩) (by assumption) ?_
              rotate_left 1
              · intro wz hSw
                obtain ⟨k0, k1⟩ := hSw
                first | (go_simp; done) | (go_simp; with_reducible rfl)
              simp only [List.set_cons_zero, List.set_cons_succ]
              refine take_at (i := 11) (n := 54) (v := ?_) rfl rfl (by kernel_rfl) (by kernel_rfl) (by kernel_rfl) (fun _ _ _ h => h) (Or.inl ⟨by rfl, ?_⟩) (by assumption) ?_
              rotate_left 1
              · intro wz hSw
                obtain ⟨k0, k1⟩ := hSw
                first | (go_simp; done) | (go_simp; with_reducible rfl)
              simp only [List.set_cons_zero, List.set_cons_succ]
              refine take_at (i := 12) (n := 55) (v := ?_) rfl rfl (by kernel_rfl) (by kernel_rfl) (by kernel_rfl) (fun _ _ _ h => h) (Or.inl ⟨by rfl, ?_⟩) (by assumption) ?_
              rotate_left 1
              · intro wz hSw
                obtain ⟨k0, k1⟩ := hSw
                first | (go_simp; done) | (go_simp; with_reducible rfl)
              simp only [List.set_cons_zero, List.set_cons_succ]
              refine wpAnyH_done (by kernel_rfl) ?_ _
              refine NoPanic.normal ?_
              clear hHeld
              go_wp2_with fail
              all_goals
                first
                  | exact ⟨⟨j + 1, acc, by omega, by simp, by omega, (HN.out.grow (below_new _ _)).grow (Below.refl _ _).drew, HQ'.out⟩, by simp [intOf]; omega⟩
                  | fail
        · have hje : j = l.length := by omega
          subst hje
          have hq := HQ.out
          rw [List.drop_length, othF, List.append_nil] at hq
          have HX := fun W hb => HW.out W hb (.slice ad5 acc.length c5)
          rw [← hq] at HX
          obtain ⟨i0, i1, i2, i3, i4, i5, i6⟩ := ta_at (fun q u hq => below_cell hno.fb.bel (HR.out q u hq)) (Tk_get hnl)
          unfold Ta.val at HX
          clear hq HQ hno
          generalize ez : respR l n block = z at *
          by_cases hz0 : z = 0
          · have e := er.out
            rw [if_pos hz0] at e
            subst hz0
            have HE : Hid (respF l (n : Int) block = (0, (13, (n : Int)))) := e
            clear e
            go_wp2_with (go_at_call 79; refine (HX _ (by first | exact HN.out.fb.bel | exact HN.out.fb.bel.drew) (by first | exact HN.out.rowSl | exact (HN.out.grow (Below.refl _ _).drew).rowSl)).mono ?_; rintro r w2 ⟨rfl, hb2⟩; have H2 : Hid (FB w w2 w.heap.size) := (by first | exact HN.out.fb.grow hb2 | exact (HN.out.fb.grow (Below.refl _ _).drew).grow hb2); clear hb2 HX)
            go_wp2_with (go_at_call 33; refine (F_any _ _ _).mono ?_; rintro r w3 ⟨rfl, hb3⟩; have H3 : Hid (FB w w3 w.heap.size) := H2.out.grow hb3; obtain ⟨rs1, rf1, rl1⟩ := cells_of (l := [_, _]) H3.out.res; have s10 := rs1 0 _ rfl; have s11 := rs1 1 _ rfl; have t10 := rf1 0; have t11 := rf1 1; clear rs1 rf1 hb3)
            first
              | (refine bodyPost_ret (ResponseOf_ends (set_two H3.out.res) rfl rfl) rfl ?_
                 rw [HE.out]
                 exact ⟨rfl, H3.out.set _ _⟩)
              | fail
          · have e := er.out
            rw [if_neg hz0] at e
            have HE : Hid (respF l (n : Int) block = (z, (0, 0))) := e
            clear e
            have hzb : (z == 0) = false := by simp [hz0]
            go_wp2_with (go_at_call 79; refine (HX _ (by first | exact HN.out.fb.bel | exact HN.out.fb.bel.drew) (by first | exact HN.out.rowSl | exact (HN.out.grow (Below.refl _ _).drew).rowSl)).mono ?_; rintro r w2 ⟨rfl, hb2⟩; have H2 : Hid (FB w w2 w.heap.size) := (by first | exact HN.out.fb.grow hb2 | exact (HN.out.fb.grow (Below.refl _ _).drew).grow hb2); obtain ⟨rs1, rf1, rl1⟩ := cells_of (l := [_, _]) H2.out.res; have s10 := rs1 0 _ rfl; have s11 := rs1 1 _ rfl; have t10 := rf1 0; have t11 := rf1 1; clear rs1 rf1 hb2 HX)
            first
              | (refine bodyPost_ret (ResponseOf_ends (set_two H2.out.res) rfl rfl) rfl ?_
                 rw [HE.out]
                 exact ⟨rfl, H2.out.set _ _⟩)
              | fail
end Go.Proofs.YtccoobcggbbciaiGreatDoor
