import Derived.Test.YtccoobcggbbcialDoorHO0
namespace Go.Proofs.YtccoobcggbbcialDoor
open Go.ChangeShapes Go.WideShapes Go.ChangeAt Go.RowKit

set_option maxRecDepth 20000 in
theorem up_any (w : World) (a b : Int) (h0 : 0 ≤ a) (h1 : a ≤ 100000) (h2 : 1 ≤ b) (h3 : b ≤ 10000) : Calls Tryd.prog 44 #[.int .i64 a, .int .i64 b] w fun r w' => r = .returned (.int .i64 ((a + b - 1) / b)) ∧ w' = w := by
  rw [← up_eq (a := a) (b := b) (by omega)]
  have e := Int.mul_ediv_add_emod a b
  have e1 := Int.emod_nonneg a (show b ≠ 0 by omega)
  have q0 : 0 ≤ a / b := Int.ediv_nonneg h0 (by omega)
  have q1 : a / b ≤ a := Int.ediv_le_self b h0
  have e5 : a.tdiv b = a / b := Int.tdiv_eq_ediv_of_nonneg h0
  rw [Int.mul_comm] at e
  have e6 : IntKind.i64.wrap (a / b) = a / b := by rw [IntKind.wrap_i64]; omega
  have e7 : IntKind.i64.wrap (a / b * b) = a / b * b := by rw [IntKind.wrap_i64]; have : 0 ≤ a / b * b := Int.mul_nonneg q0 (by omega); omega
  have e8 : IntKind.i64.wrap (a / b + 1) = a / b + 1 := by rw [IntKind.wrap_i64]; omega
  have hb : (b == 0) = false := by simp; omega
  have hb' : ¬ b = 0 := by omega
  by_cases hlt : a / b * b < a
  · rw [if_pos hlt]
    clear e
    go_enter Tryd.func44, Tryd.ntmps44
    go_wp2_with fail
    go_ret
    exact ⟨rfl, rfl⟩
  · rw [if_neg hlt]
    clear e
    go_enter Tryd.func44, Tryd.ntmps44
    go_wp2_with fail
    go_ret
    exact ⟨rfl, rfl⟩

set_option maxRecDepth 20000 in
set_option maxHeartbeats 4000000 in
theorem AtWorst_any (w : World) (t : Ta) (os : List Ta) (v : Value) (block : Int) (hl : os.length ≤ 8) (ht : stands t = true) (hs : ∀ x ∈ os, stands { x with d := 1, o := 0, p := 0 } = true) (hb0 : 0 ≤ block) (hb1 : block ≤ 10000) (hv : RowSl Ta.vals w os v) : Calls Tryd.prog 62 #[t.val, v, .int .i64 block] w fun r w' => r = .returned (.int .i64 (wOf (askF (t.c + block) os) t.j t.d)) ∧ Below w.heap.size w w' := by
  obtain ⟨g1, g2, g3, g4, g5, g6, g7, g8, -, -⟩ := stands_t ht
  unfold Ta.val
  clear ht
  obtain ⟨nm, cc, tt, dd, jj, oo, pp⟩ := t
  dsimp only at *
  have HS : Hid (∀ x ∈ os, stands { x with d := 1, o := 0, p := 0 } = true) := hs
  obtain ⟨ad, c, rfl, -, hcap, hrow⟩ := hv
  have HR : Hid _ := hrow
  clear hrow hs
  have HT : Hid (∀ W, Below (w.alloc (.cells #[.string nm, .int .i64 cc, .int .i64 tt, .int .i64 dd, .int .i64 jj, .int .i64 oo, .int .i64 pp] 27)).heap.size (w.alloc (.cells #[.string nm, .int .i64 cc, .int .i64 tt, .int .i64 dd, .int .i64 jj, .int .i64 oo, .int .i64 pp] 27)) W → W.cell? ⟨w.heap.size, 1, none⟩ = some (.int .i64 cc) ∧ W.cell? ⟨w.heap.size, 3, none⟩ = some (.int .i64 dd) ∧ W.cell? ⟨w.heap.size, 4, none⟩ = some (.int .i64 jj)) := fun W hB => ⟨below_cell hB (by go_simp), below_cell hB (by go_simp), below_cell hB (by go_simp)⟩
  have e0 : IntKind.i64.wrap (cc + block) = cc + block := by rw [IntKind.wrap_i64]; omega
  go_enter Tryd.func62, Tryd.ntmps62
  go_wp2_with fail
  go_loopw [7] (fun wv wr => ∃ x : Int, wv = .int .i64 x ∧ Below (w.alloc (.cells #[.string nm, .int .i64 cc, .int .i64 tt, .int .i64 dd, .int .i64 jj, .int .i64 oo, .int .i64 pp] 27)).heap.size (w.alloc (.cells #[.string nm, .int .i64 cc, .int .i64 tt, .int .i64 dd, .int .i64 jj, .int .i64 oo, .int .i64 pp] 27)) wr ∧ 1 ≤ x ∧ x ≤ 10001 ∧ Hid (∀ v, 1 ≤ v → v < x → askF (cc + block) os v ≠ v)) (fun wv _ => (dd + 1 - intOf wv).toNat)
  case atStart => exact ⟨1, rfl, Below.refl _ _, by omega, by omega, fun v h1 h2 => by omega⟩
  case round =>
    obtain ⟨x, rfl, hb, hx1, hx2, HX⟩ := hrel
    obtain ⟨d1, d3, d4⟩ := HT.out _ hb
    have e1 : IntKind.i64.wrap (x + jj) = x + jj := by rw [IntKind.wrap_i64]; omega
    have HB : Hid (Below (w.alloc (.cells #[.string nm, .int .i64 cc, .int .i64 tt, .int .i64 dd, .int .i64 jj, .int .i64 oo, .int .i64 pp] 27)).heap.size (w.alloc (.cells #[.string nm, .int .i64 cc, .int .i64 tt, .int .i64 dd, .int .i64 jj, .int .i64 oo, .int .i64 pp] 27)) wr) := hb
    clear hb
    by_cases hle : x + jj ≤ dd
    · go_wp2_with fail
      go_loopw [8, 26] (fun av iv wl => ∃ (j : Nat) (a : Int), j ≤ os.length ∧ av = .int .i64 a ∧ iv = .int .i64 (j : Int) ∧ Below (w.alloc (.cells #[.string nm, .int .i64 cc, .int .i64 tt, .int .i64 dd, .int .i64 jj, .int .i64 oo, .int .i64 pp] 27)).heap.size (w.alloc (.cells #[.string nm, .int .i64 cc, .int .i64 tt, .int .i64 dd, .int .i64 jj, .int .i64 oo, .int .i64 pp] 27)) wl ∧ 0 ≤ a ∧ a ≤ 20000 + 200000000 * (j : Int) ∧ Hid (a + sumO x (os.drop j) = askF (cc + block) os x)) (fun _ iv _ => os.length - (intOf iv).toNat)
      case atStart => exact ⟨0, cc + block, Nat.zero_le _, rfl, rfl, HB.out, by omega, by omega, rfl⟩
      case round =>
        clear d1 d3 d4
        obtain ⟨j, a, hjl, rfl, rfl, hbl, ha0, ha1, HQ⟩ := hrel
        by_cases hlt : j < os.length
        · obtain ⟨y, hy, hdr⟩ := drop_at hlt
          have hq := HQ.out
          rw [hdr, sumO] at hq
          have hsy := HS.out y (List.mem_of_getElem? hy)
          rcases HR.out with h | ⟨b, o, rfl, hrow⟩
          · rw [h] at hlt; simp at hlt
          obtain ⟨c0, c1, c2, c3, c4, c5, c6⟩ := ta_at (fun q u hq => below_cell (below_seq (below_new _ _) hbl) (hrow q u hq)) hy
          obtain ⟨y1, y2, y3, y4, -, -, y7, y8, -, -⟩ : 1 ≤ y.t ∧ y.t ≤ 10000 ∧ 1 ≤ y.c ∧ y.c ≤ 10000 ∧ (1 : Int) ≤ 1 ∧ (1 : Int) ≤ 10000 ∧ 0 ≤ y.j ∧ y.j ≤ 10000 ∧ (0 : Int) ≤ 0 ∧ (0 : Int) ≤ 10000 := stands_t (x := { y with d := 1, o := 0, p := 0 }) hsy
          obtain ⟨u1, u2, u3, u4⟩ : 0 ≤ up1 x y ∧ up1 x y ≤ 200000000 ∧ 0 ≤ (x + y.j + y.t - 1) / y.t ∧ (x + y.j + y.t - 1) / y.t ≤ 20000 := up1_range (w := x) (o := { y with d := 1, o := 0, p := 0 }) hsy (by omega) (by omega)
          have HL : Hid (Below (w.alloc (.cells #[.string nm, .int .i64 cc, .int .i64 tt, .int .i64 dd, .int .i64 jj, .int .i64 oo, .int .i64 pp] 27)).heap.size (w.alloc (.cells #[.string nm, .int .i64 cc, .int .i64 tt, .int .i64 dd, .int .i64 jj, .int .i64 oo, .int .i64 pp] 27)) wr) := hbl
          have lb : b < wr.heap.size := World.block_lt_of_cell? _ _ c0
          have hj' : (j : Int) < (os.length : Int) := by omega
          have e2 : IntKind.i64.wrap (x + y.j) = x + y.j := by rw [IntKind.wrap_i64]; omega
          have e6 : IntKind.i64.wrap ((x + y.j + y.t - 1) / y.t * y.c) = (x + y.j + y.t - 1) / y.t * y.c := by unfold up1 at u1 u2; rw [IntKind.wrap_i64]; omega
          have e7 : IntKind.i64.wrap (a + (x + y.j + y.t - 1) / y.t * y.c) = a + (x + y.j + y.t - 1) / y.t * y.c := by unfold up1 at u1 u2; rw [IntKind.wrap_i64]; omega
          have HU := fun W => up_any W (x + y.j) y.t (by omega) (by omega) (by omega) (by omega)
          have HQ' : Hid (a + (up1 x y + sumO x (os.drop (j + 1))) = askF (cc + block) os x) := hq
          clear hq hbl HQ hrow
          go_wp2_with fail
          refine wp_region_noPanic ?_
          refine wp_region_held_drew (S := fun w' => w'.cell? ⟨wr.heap.size, 1, none⟩ = some (.int .i64 y.c) ∧ w'.cell? ⟨wr.heap.size, 2, none⟩ = some (.int .i64 y.t) ∧ w'.cell? ⟨wr.heap.size, 4, none⟩ = some (.int .i64 y.j)) (by kernel_rfl) (by refine ⟨?_, ?_, ?_⟩ <;> go_simp) (fun hHeld => ?_)
          refine take_at (i := 0) (n := 30) (v := ?_) rfl rfl (by kernel_rfl) (by kernel_rfl) (by kernel_rfl) (fun _ _ _ h => h) (Or.inl ⟨by rfl, ?_⟩) (by assumption) ?_
          rotate_left 1
          · intro wz hSw
            obtain ⟨k0, k1, k2⟩ := hSw
            first | (go_simp; done) | (go_simp; with_reducible rfl)
          simp only [List.set_cons_zero, List.set_cons_succ]
          refine take_at (i := 1) (n := 31) (v := ?_) rfl rfl (by kernel_rfl) (by kernel_rfl) (by kernel_rfl) (fun _ _ _ h => h) (Or.inl ⟨by rfl, ?_⟩) (by assumption) ?_
          rotate_left 1
          · intro wz hSw
            obtain ⟨k0, k1, k2⟩ := hSw
            first | (go_simp; done) | (go_simp; with_reducible rfl)
          simp only [List.set_cons_zero, List.set_cons_succ]
          refine take_at (i := 2) (n := 32) (v := ?_) rfl rfl (by kernel_rfl) (by kernel_rfl) (by kernel_rfl) (fun _ _ _ h => h) (Or.inl ⟨by rfl, ?_⟩) (by assumption) ?_
          rotate_left 1
          · intro wz hSw
            obtain ⟨k0, k1, k2⟩ := hSw
            first | (go_simp; done) | (go_simp; with_reducible rfl)
          simp only [List.set_cons_zero, List.set_cons_succ]
          refine take_at (i := 3) (n := 33) (v := ?_) rfl rfl (by kernel_rfl) (by kernel_rfl) (by kernel_rfl) (fun _ _ _ h => h) (Or.inl ⟨by rfl, ?_⟩) (by assumption) ?_
          rotate_left 1
          · intro wz hSw
            obtain ⟨k0, k1, k2⟩ := hSw
            first | (go_simp; done) | (go_simp; with_reducible rfl)
          simp only [List.set_cons_zero, List.set_cons_succ]
          refine take_at (i := 4) (n := 34) (v := ?_) rfl rfl (by kernel_rfl) (by kernel_rfl) (by kernel_rfl) (fun _ _ _ h => h) (Or.inl ⟨by rfl, ?_⟩) (by assumption) ?_
          rotate_left 1
          · intro wz hSw
            obtain ⟨k0, k1, k2⟩ := hSw
            first | (go_simp; done) | (go_simp; with_reducible rfl)
          simp only [List.set_cons_zero, List.set_cons_succ]
          refine take_at (i := 5) (n := 35) (v := ?_) rfl rfl (by kernel_rfl) (by kernel_rfl) (by kernel_rfl) (fun _ _ _ h => h) (Or.inl ⟨by rfl, ?_⟩) (by assumption) ?_
          rotate_left 1
          · intro wz hSw
            obtain ⟨k0, k1, k2⟩ := hSw
            first | (go_simp; done) | (go_simp; with_reducible rfl)
          simp only [List.set_cons_zero, List.set_cons_succ]
          refine take_at (i := 6) (n := 36) (v := ?_) rfl rfl (by kernel_rfl) (by kernel_rfl) (by kernel_rfl) (fun _ _ _ h => h) (Or.inl ⟨by rfl, ?_⟩) (by assumption) ?_
          rotate_left 1
          · intro wz hSw
            obtain ⟨k0, k1, k2⟩ := hSw
            first | (go_simp; done) | (go_simp; with_reducible rfl)
          simp only [List.set_cons_zero, List.set_cons_succ]
          refine take_at (i := 8) (n := 38) (v := ?_) rfl rfl (by kernel_rfl) (by kernel_rfl) (by kernel_rfl) (fun _ _ _ h => h) (Or.inl ⟨by rfl, ?_⟩) (by assumption) ?_
          rotate_left 1
          · intro wz hSw
            obtain ⟨k0, k1, k2⟩ := hSw
            first | (go_simp; done) | (go_simp; with_reducible rfl)
          simp only [List.set_cons_zero, List.set_cons_succ]
          refine take_at (i := 9) (n := 39) (v := ?_) rfl rfl (by kernel_rfl) (by kernel_rfl) (by kernel_rfl) (fun _ _ _ h => h) (Or.inl ⟨by rfl, ?_⟩) (by assumption) ?_
          rotate_left 1
          · intro wz hSw
            obtain ⟨k0, k1, k2⟩ := hSw
            first | (go_simp; done) | (go_simp; with_reducible rfl)
          simp only [List.set_cons_zero, List.set_cons_succ]
          refine wpAnyH_ready (rs := [7]) (by kernel_rfl) (by simp) ?_
          refine AllReadyH.cons rfl (fun K hK => ?_) AllReadyH.nil
          go_wp2_with (go_at_call 44; refine (HU _).mono ?_; rintro r w1 ⟨rfl, rfl⟩)
          refine hK.out _ _ (by refine ⟨?_, ?_, ?_⟩ <;> go_simp) (fun hHeld => ?_)
          clear hK K HU
          refine take_at (i := 10) (n := 40) (v := ?_) rfl rfl (by kernel_rfl) (by kernel_rfl) (by kernel_rfl) (fun _ _ _ h => h) (Or.inl ⟨by rfl, ?_⟩) (by assumption) ?_
          rotate_left 1
          · intro wz hSw
            first | (go_simp; done) | (go_simp; with_reducible rfl)
          simp only [List.set_cons_zero, List.set_cons_succ]
          refine take_at (i := 11) (n := 41) (v := ?_) rfl rfl (by kernel_rfl) (by kernel_rfl) (by kernel_rfl) (fun _ _ _ h => h) (Or.inl ⟨by rfl, ?_⟩) (by assumption) ?_
          rotate_left 1
          · intro wz hSw
            first | (go_simp; done) | (go_simp; with_reducible rfl)
          simp only [List.set_cons_zero, List.set_cons_succ]
          refine take_at (i := 12) (n := 8) (v := ?_) rfl rfl (by kernel_rfl) (by kernel_rfl) (by kernel_rfl) (fun _ _ _ h => h) (Or.inl ⟨by rfl, ?_⟩) (by assumption) ?_
          rotate_left 1
          · intro wz hSw
            first | (go_simp; done) | (go_simp; with_reducible rfl)
          simp only [List.set_cons_zero, List.set_cons_succ]
          refine wpAnyH_done (by kernel_rfl) ?_ _
          refine NoPanic.normal ?_
          clear hHeld
          go_wp2_with fail
          exact ⟨⟨j + 1, a + up1 x y, by omega, rfl, by simp, by first | exact (below_seq HL.out (below_new _ _)).drew | exact below_seq HL.out (below_new _ _), by omega, by omega, by have := HQ'.out; show _ = _; omega⟩, by simp [intOf]; omega⟩
        · have hje : j = os.length := by omega
          subst hje
          have hq := HQ.out
          rw [List.drop_length, sumO, Int.add_zero] at hq
          have HL : Hid (Below (w.alloc (.cells #[.string nm, .int .i64 cc, .int .i64 tt, .int .i64 dd, .int .i64 jj, .int .i64 oo, .int .i64 pp] 27)).heap.size (w.alloc (.cells #[.string nm, .int .i64 cc, .int .i64 tt, .int .i64 dd, .int .i64 jj, .int .i64 oo, .int .i64 pp] 27)) wr) := hbl
          obtain ⟨d1, d3, d4⟩ := HT.out _ hbl
          have HQ' : Hid (a = askF (cc + block) os x) := hq
          clear hq hbl HQ
          by_cases hfx : a = x
          · subst hfx
            go_wp2_with fail
            go_ret
            have e : wOf (askF (cc + block) os) jj dd = a + jj := wOf_hit (by omega) hx1 hle HQ'.out.symm HX.out
            exact ⟨by rw [e]; rfl, below_seq (below_new _ _) HL.out⟩
          · have hfb : (a == x) = false := by simp [hfx]
            have e9 : IntKind.i64.wrap (x + 1) = x + 1 := by rw [IntKind.wrap_i64]; omega
            go_wp2_with fail
            refine ⟨⟨x + 1, rfl, HL.out, by omega, by omega, fun v h1 h2 he => ?_⟩, by simp [intOf]; omega⟩
            by_cases hvx : v = x
            · subst hvx
              exact hfx (HQ'.out.trans he)
            · exact HX.out v h1 (by omega) he
    · go_wp2_with fail
      go_ret
      have e : wOf (askF (cc + block) os) jj dd = 0 := wOf_none fun v h1 h2 he => HX.out v h1 (by omega) he
      exact ⟨by rw [e]; rfl, below_seq (below_new _ _) HB.out⟩
end Go.Proofs.YtccoobcggbbcialDoor
