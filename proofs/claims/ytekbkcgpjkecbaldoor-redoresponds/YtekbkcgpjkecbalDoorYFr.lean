import Derived.Test.YtekbkcgpjkecbalDoorYB
import Derived.Test.YtekbkcgpjkecbalDoorZD3
import Derived.Test.YtekbkcgpjkecbalDoorZE
import Derived.Test.YtekbkcgpjkecbalDoorTQ
import Derived.Test.YtekbkcgpjkecbalDoorCards
import Derived.Test.YtekbkcgpjkecbalDoorTie
import Derived.Test.YtekbkcgpjkecbalDoorTN
import Derived.Test.YtekbkcgpjkecbalDoorTO
import Derived.WideKeyArgs
import Derived.Deep.DeepHandedRow
namespace Go.Proofs.YtekbkcgpjkecbalDoor
open Go.ChangeShapes Go.WideShapes Go.ChangeAt Go.RowKit

set_option maxRecDepth 20000 in
theorem up20_any (w : World) (a b : Int) (h0 : 0 ≤ a) (h1 : a ≤ 100000) (h2 : 1 ≤ b) (h3 : b ≤ 100000) : Calls Tryd.prog 34 #[.int .i64 a, .int .i64 b] w fun r w' => r = .returned (.int .i64 ((a + b - 1) / b)) ∧ w' = w := by
  rw [← up_eq (a := a) (b := b) (by omega)]
  have e := Int.mul_ediv_add_emod a b
  have e1 := Int.emod_nonneg a (show b ≠ 0 by omega)
  have q0 : 0 ≤ a / b := Int.ediv_nonneg h0 (by omega)
  have q1 : a / b ≤ a := Int.ediv_le_self b h0
  have e5 : a.tdiv b = a / b := Int.tdiv_eq_ediv_of_nonneg h0
  rw [Int.mul_comm] at e
  have e6 : IntKind.i64.wrap (a / b) = a / b := by rw [IntKind.wrap_i64]; omega
  have e7 : IntKind.i64.wrap (a / b * b) = a / b * b := by rw [IntKind.wrap_i64]; have : 0 ≤ a / b * b := Int.mul_nonneg q0 (by omega); omega
  have e8 : IntKind.i64.wrap (a / b + 1) = a / b + 1 := by rw [IntKind.wrap_i64]; omega
  have hb : (b == 0) = false := by simp; omega
  have hb' : ¬ b = 0 := by omega
  by_cases hlt : a / b * b < a
  · rw [if_pos hlt]
    clear e
    go_enter Tryd.func34, Tryd.ntmps34
    go_wp2_with fail
    go_ret
    exact ⟨rfl, rfl⟩
  · rw [if_neg hlt]
    clear e
    go_enter Tryd.func34, Tryd.ntmps34
    go_wp2_with fail
    go_ret
    exact ⟨rfl, rfl⟩

set_option maxRecDepth 20000 in
set_option maxHeartbeats 4000000 in
theorem askd_any (w : World) (l : List Ta) (i : Nat) (gap sp z : Int) (v : Value) (g0 g1 g2 g3 g4 : Nat) (hl : l.length ≤ 8) (hi : i < l.length) (hs : ∀ x ∈ l, stands x = true) (hz : 0 ≤ z ∧ z ≤ 20000) (hg : 1 ≤ gap ∧ gap ≤ 20000) (h0 : 0 ≤ sp) (hv : RowSl Ta.vals w l v)
    (c0 : w.cell? ⟨g0, 1, none⟩ = some (.int .i64 (Tk l i).c)) (c6 : w.cell? ⟨g0, 6, none⟩ = some (.int .i64 (Tk l i).p)) (c1 : w.cell? ⟨g1, 0, none⟩ = some (.int .i64 gap)) (c2 : w.cell? ⟨g2, 0, none⟩ = some (.int .i64 (lossF l (Tk l i).p sp))) (c3 : w.cell? ⟨g3, 0, none⟩ = some v) (c4 : w.cell? ⟨g4, 0, none⟩ = some (.int .i64 (i : Int))) :
    Calls Tryd.prog 33 #[.int .i64 z, .pointer (some ⟨g0, 0, none⟩), .pointer (some ⟨g1, 0, none⟩), .pointer (some ⟨g2, 0, none⟩), .pointer (some ⟨g3, 0, none⟩), .pointer (some ⟨g4, 0, none⟩)] w fun r w' => r = .returned (.int .i64 (askR l i gap sp z)) ∧ Below w.heap.size w w' := by
  obtain ⟨ad, c, rfl, -, hcap, hrow⟩ := hv
  rcases hrow with h | ⟨b, o, rfl, hrow⟩
  · rw [h] at hi; simp at hi
  have HR : Hid ((∀ q u, (l.flatMap Ta.vals)[q]? = some u → w.cell? ⟨b, o + q, none⟩ = some u) ∧ ∀ x ∈ l, stands x = true) := ⟨hrow, hs⟩
  have h1 := sumO_in hz (othF (aheadP l i) i l 0) (fun x hx => hs x (othF_mem l 0 x hx))
  have h2 := othF_len (A := aheadP l i) (i := i) l 0
  have h3 := stands_t (stands_mem hs hi)
  have h4 := lossF_range (p := (Tk l i).p) hs h0
  have h5 := upG_range hz hg.1
  have h6 : 0 ≤ (z + gap - 1) / gap * lossF l (Tk l i).p sp := Int.mul_nonneg h5.1 h4.1
  have h7 : (z + gap - 1) / gap * lossF l (Tk l i).p sp ≤ 20000 * 10000 := Int.mul_le_mul h5.2 h4.2 h4.1 (by omega)
  obtain ⟨tot, ez⟩ : ∃ tot, askR l i gap sp z = tot := ⟨_, rfl⟩
  rw [ez]
  obtain ⟨ip, hip⟩ : ∃ ip, (Tk l i).p = ip := ⟨_, rfl⟩
  obtain ⟨cc, hcc⟩ : ∃ cc, (Tk l i).c = cc := ⟨_, rfl⟩
  obtain ⟨un, hun⟩ : ∃ un, lossF l (Tk l i).p sp = un := ⟨_, rfl⟩
  obtain ⟨pr, hpr⟩ : ∃ pr, (z + gap - 1) / gap = pr := ⟨_, rfl⟩
  have hcb : 1 ≤ cc ∧ cc ≤ 10000 := by omega
  rw [hcc] at c0
  rw [hip] at c6
  rw [hun] at c2 h4 h6 h7
  rw [hpr] at h5 h6 h7
  obtain ⟨pd, hpd⟩ : ∃ pd, pr * un = pd := ⟨_, rfl⟩
  rw [hpd] at h6 h7
  have EZ : Hid (cc + pd + sumO z (othF (aheadP l i) i l 0) = tot) := by
    show _ = _
    rw [← ez]
    unfold askR askF
    rw [hcc, hun, hpr, hpd]
    omega
  have HI : Hid ((Tk l i).p = ip) := hip
  have r2 : IntKind.i64.wrap (pr * un) = pd := by rw [hpd, IntKind.wrap_i64]; omega
  have r3 : IntKind.i64.wrap (cc + pd) = cc + pd := by rw [IntKind.wrap_i64]; omega
  have lb0 : g0 < w.heap.size := World.block_lt_of_cell? _ _ c0
  have lb4 : g4 < w.heap.size := World.block_lt_of_cell? _ _ c4
  have hii : (i : Int) < (l.length : Int) := by omega
  clear hrow hs h1 h2 h3 h4 hip hcc hun hpd ez
  go_enter Tryd.func33, Tryd.ntmps33
  go_wp2_with fail
  refine wp_region_noPanic ?_
  refine wp_region_held_drew (S := fun w' => w'.cell? ⟨g0, 1, none⟩ = some (.int .i64 cc) ∧ w'.cell? ⟨g1, 0, none⟩ = some (.int .i64 gap) ∧ w'.cell? ⟨g2, 0, none⟩ = some (.int .i64 un)) (by kernel_rfl) ⟨c0, c1, c2⟩ (fun hHeld => ?_)
  refine take_at (i := 0) (n := 11) (v := ?_) rfl rfl (by kernel_rfl) (by kernel_rfl) (by kernel_rfl) (fun _ _ _ h => h) (Or.inl ⟨by rfl, ?_⟩) (by assumption) ?_
  rotate_left 1
  · intro wz hSw
    obtain ⟨s0, s1, s2⟩ := hSw
    first | (go_simp; done) | (go_simp; with_reducible rfl)
  simp only [List.set_cons_zero, List.set_cons_succ]
  refine take_at (i := 1) (n := 12) (v := ?_) rfl rfl (by kernel_rfl) (by kernel_rfl) (by kernel_rfl) (fun _ _ _ h => h) (Or.inl ⟨by rfl, ?_⟩) (by assumption) ?_
  rotate_left 1
  · intro wz hSw
    obtain ⟨s0, s1, s2⟩ := hSw
    first | (go_simp; done) | (go_simp; with_reducible rfl)
  simp only [List.set_cons_zero, List.set_cons_succ]
  refine take_at (i := 2) (n := 13) (v := ?_) rfl rfl (by kernel_rfl) (by kernel_rfl) (by kernel_rfl) (fun _ _ _ h => h) (Or.inl ⟨by rfl, ?_⟩) (by assumption) ?_
  rotate_left 1
  · intro wz hSw
    obtain ⟨s0, s1, s2⟩ := hSw
    first | (go_simp; done) | (go_simp; with_reducible rfl)
  simp only [List.set_cons_zero, List.set_cons_succ]
  refine take_at (i := 3) (n := 14) (v := ?_) rfl rfl (by kernel_rfl) (by kernel_rfl) (by kernel_rfl) (fun _ _ _ h => h) (Or.inl ⟨by rfl, ?_⟩) (by assumption) ?_
  rotate_left 1
  · intro wz hSw
    obtain ⟨s0, s1, s2⟩ := hSw
    first | (go_simp; done) | (go_simp; with_reducible rfl)
  simp only [List.set_cons_zero, List.set_cons_succ]
  refine take_at (i := 5) (n := 16) (v := ?_) rfl rfl (by kernel_rfl) (by kernel_rfl) (by kernel_rfl) (fun _ _ _ h => h) (Or.inl ⟨by rfl, ?_⟩) (by assumption) ?_
  rotate_left 1
  · intro wz hSw
    obtain ⟨s0, s1, s2⟩ := hSw
    first | (go_simp; done) | (go_simp; with_reducible rfl)
  simp only [List.set_cons_zero, List.set_cons_succ]
  refine wpAnyH_ready (rs := [4]) (by kernel_rfl) (by simp) ?_
  refine AllReadyH.cons rfl (fun K hK => ?_) AllReadyH.nil
  go_simp
  go_wp2_with (go_at_call 34; refine (up20_any _ _ _ (by omega) (by omega) (by omega) (by omega)).mono ?_; rintro r w8 ⟨rfl, hw8⟩; have hw7 := hw8.symm; subst hw7; clear hw8; rw [hpr])
  refine hK.out _ _ ⟨c0, c1, c2⟩ (fun hHeld => ?_)
  clear hK K
  try simp only [List.set_cons_zero, List.set_cons_succ]
  refine take_at (i := 6) (n := 17) (v := ?_) rfl rfl (by kernel_rfl) (by kernel_rfl) (by kernel_rfl) (fun _ _ _ h => h) (Or.inl ⟨by rfl, ?_⟩) (by assumption) ?_
  rotate_left 1
  · intro wz hSw
    obtain ⟨s0, s1, s2⟩ := hSw
    first | (go_simp; done) | (go_simp; with_reducible rfl)
  simp only [List.set_cons_zero, List.set_cons_succ]
  refine take_at (i := 7) (n := 18) (v := ?_) rfl rfl (by kernel_rfl) (by kernel_rfl) (by kernel_rfl) (fun _ _ _ h => h) (Or.inl ⟨by rfl, ?_⟩) (by assumption) ?_
  rotate_left 1
  · intro wz hSw
    obtain ⟨s0, s1, s2⟩ := hSw
    first | (go_simp; done) | (go_simp; with_reducible rfl)
  simp only [List.set_cons_zero, List.set_cons_succ]
  refine take_at (i := 8) (n := 8) (v := ?_) rfl rfl (by kernel_rfl) (by kernel_rfl) (by kernel_rfl) (fun _ _ _ h => h) (Or.inl ⟨by rfl, ?_⟩) (by assumption) ?_
  rotate_left 1
  · intro wz hSw
    obtain ⟨s0, s1, s2⟩ := hSw
    first | (go_simp; done) | (go_simp; with_reducible rfl)
  simp only [List.set_cons_zero, List.set_cons_succ]
  refine wpAnyH_done (by kernel_rfl) ?_ _
  refine NoPanic.normal ?_
  clear hHeld
  have HB0 : Hid (Below w.heap.size w w.drew) := (Below.refl _ _).drew
  have d3 := below_cell HB0.out c3
  clear hpr
  generalize w.drew = w3 at *
  go_wp2_with fail
  go_loopw [8, 21] (fun sv iv wr => ∃ (k : Nat) (s : Int), k ≤ l.length ∧ sv = .int .i64 s ∧ iv = .int .i64 (k : Int) ∧ Below w.heap.size w wr ∧ (0 ≤ s ∧ s ≤ 1000000000 + k * 1000000000) ∧ Hid (s + sumO z (othF (aheadP l i) i (l.drop k) k) = tot)) (fun _ iv _ => l.length - (intOf iv).toNat)
  case atStart => exact ⟨0, cc + pd, Nat.zero_le _, rfl, rfl, HB0.out, by omega, EZ.out⟩
  case round =>
    obtain ⟨k, s, hk, rfl, rfl, hb, hsb, HQ⟩ := hrel
    have HB : Hid (Below w.heap.size w wr) := hb
    by_cases hkl : k < l.length
    · obtain ⟨x, hx, hd⟩ := drop_at hkl
      have hst := HR.out.2 x (List.mem_of_getElem? hx)
      obtain ⟨y0, y1, y2, y3, y4, y5, y6⟩ := ta_at (fun q u hq => below_cell hb (HR.out.1 q u hq)) hx
      have c6' := below_cell hb c6
      have c4' := below_cell hb c4
      have hu := up1_in hst hz
      have hTx : Tk l k = x := by unfold Tk; rw [List.getD_eq_getElem?_getD, hx]; rfl
      have hq := HQ.out
      rw [hd, othF] at hq
      have hap : aheadP l i k = decide (ip ≤ x.p) := by unfold aheadP; rw [HI.out, hTx]
      obtain ⟨g1', g2', g3', g4', g5', g6', g7', g8', -, -⟩ := stands_t hst
      have hup : up1 z x = (z + x.j + x.t - 1) / x.t * x.c := rfl
      obtain ⟨xn, xc, xt, xd, xj, xo, xp⟩ := x
      dsimp only at y0 y1 y2 y3 y4 y5 y6 g1' g2' g3' g4' g5' g6' g7' g8' hap hup
      have lb2 : b < wr.heap.size := World.block_lt_of_cell? _ _ y0
      have lb0' : g0 < wr.heap.size := World.block_lt_of_cell? _ _ c6'
      have lb4' : g4 < wr.heap.size := World.block_lt_of_cell? _ _ c4'
      have hki : (k : Int) < (l.length : Int) := by omega
      clear hx hd hTx hb HQ hst
      by_cases n1 : k = i
      · subst n1
        rw [if_neg (by simp)] at hq
        have HE : Hid (s + sumO z (othF (aheadP l k) k (l.drop (k + 1)) (k + 1)) = tot) := hq
        clear hq hap hup hu
        go_wp2_with fail
        exact ⟨⟨k + 1, s, by omega, rfl, by simp, below_seq HB.out (below_new _ _), by omega, HE⟩, by simp [intOf]; omega⟩
      have n1b : ((k : Int) != (i : Int)) = true := by simp; omega
      have n1c : ((k : Int) == (i : Int)) = false := beq_eq_false_iff_ne.2 (by omega)
      have n1d : decide ((k : Int) = (i : Int)) = false := decide_eq_false (by omega)
      have n1e : ¬ (k : Int) = (i : Int) := by omega
      by_cases n2 : ip ≤ xp
      · have n2b : decide (ip ≤ xp) = true := decide_eq_true n2
        rw [if_pos (by rw [hap]; simp [n1, n2]), sumO] at hq
        have HE : Hid (s + up1 z ⟨xn, xc, xt, xd, xj, xo, xp⟩ + sumO z (othF (aheadP l i) i (l.drop (k + 1)) (k + 1)) = tot) := by show _ = _; omega
        rw [hup] at hu HE
        have r1 : IntKind.i64.wrap (z + xj) = z + xj := by rw [IntKind.wrap_i64]; omega
        obtain ⟨pr, hpr⟩ : ∃ pr, (z + xj + xt - 1) / xt = pr := ⟨_, rfl⟩
        rw [hpr] at hu HE
        obtain ⟨pd, hpd⟩ : ∃ pd, pr * xc = pd := ⟨_, rfl⟩
        rw [hpd] at hu HE
        have r3 : IntKind.i64.wrap (pr * xc) = pd := by rw [hpd, IntKind.wrap_i64]; omega
        have r4 : IntKind.i64.wrap (s + pd) = s + pd := by rw [IntKind.wrap_i64]; omega
        clear hq hap hup hpd
        go_wp2_with fail
        refine wp_region_noPanic ?_
        refine wp_region_held_drew (S := fun w' => w'.cell? ⟨wr.heap.size, 1, none⟩ = some (.int .i64 xc) ∧ w'.cell? ⟨wr.heap.size, 2, none⟩ = some (.int .i64 xt) ∧ w'.cell? ⟨wr.heap.size, 4, none⟩ = some (.int .i64 xj)) (by kernel_rfl) ⟨by go_simp, by go_simp, by go_simp⟩ (fun hHeld => ?_)
        refine take_at (i := 0) (n := 36) (v := ?_) rfl rfl (by kernel_rfl) (by kernel_rfl) (by kernel_rfl) (fun _ _ _ h => h) (Or.inl ⟨by rfl, ?_⟩) (by assumption) ?_
        rotate_left 1
        · intro wz hSw
          obtain ⟨s0, s1, s2⟩ := hSw
          first | (go_simp; done) | (go_simp; with_reducible rfl)
        simp only [List.set_cons_zero, List.set_cons_succ]
        refine take_at (i := 1) (n := 37) (v := ?_) rfl rfl (by kernel_rfl) (by kernel_rfl) (by kernel_rfl) (fun _ _ _ h => h) (Or.inl ⟨by rfl, ?_⟩) (by assumption) ?_
        rotate_left 1
        · intro wz hSw
          obtain ⟨s0, s1, s2⟩ := hSw
          first | (go_simp; done) | (go_simp; with_reducible rfl)
        simp only [List.set_cons_zero, List.set_cons_succ]
        refine take_at (i := 2) (n := 38) (v := ?_) rfl rfl (by kernel_rfl) (by kernel_rfl) (by kernel_rfl) (fun _ _ _ h => h) (Or.inl ⟨by rfl, ?_⟩) (by assumption) ?_
        rotate_left 1
        · intro wz hSw
          obtain ⟨s0, s1, s2⟩ := hSw
          first | (go_simp; done) | (go_simp; with_reducible rfl)
        simp only [List.set_cons_zero, List.set_cons_succ]
        refine take_at (i := 3) (n := 39) (v := ?_) rfl rfl (by kernel_rfl) (by kernel_rfl) (by kernel_rfl) (fun _ _ _ h => h) (Or.inl ⟨by rfl, ?_⟩) (by assumption) ?_
        rotate_left 1
        · intro wz hSw
          obtain ⟨s0, s1, s2⟩ := hSw
          first | (go_simp; done) | (go_simp; with_reducible rfl)
        simp only [List.set_cons_zero, List.set_cons_succ]
        refine take_at (i := 4) (n := 40) (v := ?_) rfl rfl (by kernel_rfl) (by kernel_rfl) (by kernel_rfl) (fun _ _ _ h => h) (Or.inl ⟨by rfl, ?_⟩) (by assumption) ?_
        rotate_left 1
        · intro wz hSw
          obtain ⟨s0, s1, s2⟩ := hSw
          first | (go_simp; done) | (go_simp; with_reducible rfl)
        simp only [List.set_cons_zero, List.set_cons_succ]
        refine take_at (i := 5) (n := 41) (v := ?_) rfl rfl (by kernel_rfl) (by kernel_rfl) (by kernel_rfl) (fun _ _ _ h => h) (Or.inl ⟨by rfl, ?_⟩) (by assumption) ?_
        rotate_left 1
        · intro wz hSw
          obtain ⟨s0, s1, s2⟩ := hSw
          first | (go_simp; done) | (go_simp; with_reducible rfl)
        simp only [List.set_cons_zero, List.set_cons_succ]
        refine take_at (i := 6) (n := 42) (v := ?_) rfl rfl (by kernel_rfl) (by kernel_rfl) (by kernel_rfl) (fun _ _ _ h => h) (Or.inl ⟨by rfl, ?_⟩) (by assumption) ?_
        rotate_left 1
        · intro wz hSw
          obtain ⟨s0, s1, s2⟩ := hSw
          first | (go_simp; done) | (go_simp; with_reducible rfl)
        simp only [List.set_cons_zero, List.set_cons_succ]
        refine take_at (i := 8) (n := 44) (v := ?_) rfl rfl (by kernel_rfl) (by kernel_rfl) (by kernel_rfl) (fun _ _ _ h => h) (Or.inl ⟨by rfl, ?_⟩) (by assumption) ?_
        rotate_left 1
        · intro wz hSw
          obtain ⟨s0, s1, s2⟩ := hSw
          first | (go_simp; done) | (go_simp; with_reducible rfl)
        simp only [List.set_cons_zero, List.set_cons_succ]
        refine take_at (i := 9) (n := 45) (v := ?_) rfl rfl (by kernel_rfl) (by kernel_rfl) (by kernel_rfl) (fun _ _ _ h => h) (Or.inl ⟨by rfl, ?_⟩) (by assumption) ?_
        rotate_left 1
        · intro wz hSw
          obtain ⟨s0, s1, s2⟩ := hSw
          first | (go_simp; done) | (go_simp; with_reducible rfl)
        simp only [List.set_cons_zero, List.set_cons_succ]
        refine wpAnyH_ready (rs := [7]) (by kernel_rfl) (by simp) ?_
        refine AllReadyH.cons rfl (fun K hK => ?_) AllReadyH.nil
        go_simp
        go_wp2_with (go_at_call 34; refine (up20_any _ _ _ (by omega) (by omega) (by omega) (by omega)).mono ?_; rintro r w9 ⟨rfl, hw9⟩; have hw8 := hw9.symm; subst hw8; clear hw9; rw [hpr])
        refine hK.out _ _ ⟨by go_simp, by go_simp, by go_simp⟩ (fun hHeld => ?_)
        clear hK K
        try simp only [List.set_cons_zero, List.set_cons_succ]
        refine take_at (i := 10) (n := 46) (v := ?_) rfl rfl (by kernel_rfl) (by kernel_rfl) (by kernel_rfl) (fun _ _ _ h => h) (Or.inl ⟨by rfl, ?_⟩) (by assumption) ?_
        rotate_left 1
        · intro wz hSw
          obtain ⟨s0, s1, s2⟩ := hSw
          first | (go_simp; done) | (go_simp; with_reducible rfl)
        simp only [List.set_cons_zero, List.set_cons_succ]
        refine take_at (i := 11) (n := 47) (v := ?_) rfl rfl (by kernel_rfl) (by kernel_rfl) (by kernel_rfl) (fun _ _ _ h => h) (Or.inl ⟨by rfl, ?_⟩) (by assumption) ?_
        rotate_left 1
        · intro wz hSw
          obtain ⟨s0, s1, s2⟩ := hSw
          first | (go_simp; done) | (go_simp; with_reducible rfl)
        simp only [List.set_cons_zero, List.set_cons_succ]
        refine take_at (i := 12) (n := 8) (v := ?_) rfl rfl (by kernel_rfl) (by kernel_rfl) (by kernel_rfl) (fun _ _ _ h => h) (Or.inl ⟨by rfl, ?_⟩) (by assumption) ?_
        rotate_left 1
        · intro wz hSw
          obtain ⟨s0, s1, s2⟩ := hSw
          first | (go_simp; done) | (go_simp; with_reducible rfl)
        simp only [List.set_cons_zero, List.set_cons_succ]
        refine wpAnyH_done (by kernel_rfl) ?_ _
        refine NoPanic.normal ?_
        clear hHeld
        go_wp2_with fail
        exact ⟨⟨k + 1, s + pd, by omega, rfl, by simp, (below_seq HB.out (below_new _ _)).drew, by omega, HE⟩, by simp [intOf]; omega⟩
      · have n2b : decide (ip ≤ xp) = false := decide_eq_false n2
        rw [if_neg (by rw [hap]; simp [n2])] at hq
        have HE : Hid (s + sumO z (othF (aheadP l i) i (l.drop (k + 1)) (k + 1)) = tot) := hq
        clear hq hap hup hu
        go_wp2_with fail
        exact ⟨⟨k + 1, s, by omega, rfl, by simp, below_seq HB.out (below_new _ _), by omega, HE⟩, by simp [intOf]; omega⟩
    · have hke : k = l.length := by omega
      subst hke
      have hq := HQ.out
      rw [List.drop_length, othF, sumO] at hq
      have HE : Hid (s = tot) := by show _ = _; omega
      clear hb HQ hq
      go_wp2_with fail
      go_ret
      have e := HE.out
      subst e
      exact ⟨rfl, HB.out⟩

set_option maxRecDepth 20000 in
set_option maxHeartbeats 4000000 in
theorem least_any (w : World) (most : Int) (p0 p1 p2 p3 p4 : Value) (ask : Int → Int) (hmost : most ≤ 20000)
    (HA : ∀ W, Below w.heap.size w W → ∀ z, 1 ≤ z → z ≤ most → Calls Tryd.prog 33 #[.int .i64 z, p0, p1, p2, p3, p4] W fun r w' => r = .returned (.int .i64 (ask z)) ∧ Below W.heap.size W w') :
    Calls Tryd.prog 32 #[.int .i64 most, .func (Fn.func 33) #[] #[p0, p1, p2, p3, p4]] w fun r w' => r = .returned (.int .i64 (wOf ask 0 most)) ∧ Below w.heap.size w w' := by
  have HS : Hid (∀ W, Below w.heap.size w W → ∀ z, 1 ≤ z → z ≤ most → Calls Tryd.prog 33 #[.int .i64 z, p0, p1, p2, p3, p4] W fun r w' => r = .returned (.int .i64 (ask z)) ∧ Below W.heap.size W w') := HA
  obtain ⟨tot, htot⟩ : ∃ tot, wOf ask 0 most = tot := ⟨_, rfl⟩
  have HT : Hid (wOf ask 0 most = tot) := htot
  rw [htot]
  clear HA htot
  go_enter Tryd.func32, Tryd.ntmps32
  go_wp2_with fail
  go_loopw [5] (fun xv wr => ∃ x : Int, xv = .int .i64 x ∧ Below w.heap.size w wr ∧ 1 ≤ x ∧ x ≤ 20001 ∧ Hid (∀ v, 1 ≤ v → v < x → v ≤ most → ask v ≠ v)) (fun xv _ => (most + 1 - intOf xv).toNat)
  case atStart => exact ⟨1, rfl, Below.refl _ _, Int.le_refl _, by omega, fun v h1 h2 => by omega⟩
  case round =>
    obtain ⟨x, rfl, hb, hx1, hx2, HX⟩ := hrel
    have HB : Hid (Below w.heap.size w wr) := hb
    by_cases hle : x ≤ most
    · have HC := HS.out wr hb x hx1 hle
      obtain ⟨y, hy⟩ : ∃ y, ask x = y := ⟨_, rfl⟩
      have HY : Hid (ask x = y) := hy
      rw [hy] at HC
      have hxw : IntKind.i64.wrap (x + 1) = x + 1 := by rw [IntKind.wrap_i64]; omega
      clear hy hb
      by_cases hxy : y = x
      · subst hxy
        go_wp2_with (go_at_call 33; refine HC.mono ?_; rintro r w5 ⟨rfl, hb5⟩)
        go_ret
        have e : wOf ask 0 most = y + 0 := wOf_hit (Int.le_refl _) hx1 (by omega) HY.out fun v hv1 hv2 => HX.out v hv1 hv2 (by omega)
        rw [HT.out] at e
        refine ⟨?_, below_seq HB.out hb5⟩
        rw [show tot = y by omega]
        rfl
      · have hb1 : (y == x) = false := beq_eq_false_iff_ne.2 hxy
        go_wp2_with (go_at_call 33; refine HC.mono ?_; rintro r w5 ⟨rfl, hb5⟩)
        have g2 := HY.out
        refine ⟨⟨x + 1, rfl, below_seq HB.out hb5, by omega, by omega, fun v hv1 hv2 hv3 he => ?_⟩, ?_⟩
        · by_cases hvx : v = x
          · subst hvx; omega
          · exact HX.out v hv1 (by omega) hv3 he
        · simp [intOf]
          omega
    · go_wp2_with fail
      go_ret
      have e : wOf ask 0 most = 0 := wOf_none fun v hv1 hv2 => HX.out v hv1 (by omega) (by omega)
      rw [HT.out] at e
      subst e
      exact ⟨rfl, HB.out⟩
end Go.Proofs.YtekbkcgpjkecbalDoor
namespace Go.Proofs.YtekbkcgpjkecbalDoor
open Go.ChangeShapes Go.WideShapes Go.ChangeAt Go.RowKit

/- What a fault costs, as the document says it. -/
def dn (sp c : Int) : Int := if 0 < sp ∧ sp < c then sp else c
def dlF (p sp : Int) : List Ta → Int → Int
  | [], m => m
  | x :: r, m => dlF p sp r (if p ≤ x.p ∧ m < dn sp x.c then dn sp x.c else m)
def capL (sp x : Int) : Int := if sp = 0 then x else min x sp

theorem dlF_eq {p sp : Int} (hs : 0 ≤ sp) : ∀ (l : List Ta) (m : Int), (∀ x ∈ l, stands x = true) → dlF p sp l (capL sp m) = capL sp (mostF p l m)
  | [], m, _ => rfl
  | x :: r, m, h => by
    have hx := stands_t (h x List.mem_cons_self)
    rw [dlF, mostF, ← dlF_eq hs r _ (fun y hy => h y (List.mem_cons_of_mem _ hy))]
    congr 1
    unfold dn capL
    by_cases h0 : sp = 0
    · subst h0
      simp
      by_cases hp : p ≤ x.p
      · simp [hp]; split <;> omega
      · simp [hp]
    · by_cases hp : p ≤ x.p
      · simp only [h0, hp, if_false, if_true, true_and]
        split <;> split <;> (try split) <;> omega
      · simp [h0, hp]

theorem dlF_loss {p sp : Int} {l : List Ta} (hs : 0 ≤ sp) (h : ∀ x ∈ l, stands x = true) : dlF p sp l 0 = lossF l p sp := by
  have e := dlF_eq (p := p) hs l 0 h
  have e0 : capL sp 0 = 0 := by unfold capL; split <;> omega
  rw [e0] at e
  rw [e]
  rfl

/-- The boxes, a task's own box and the loss so far. -/
structure QR (w W : World) (v : Value) (i gap : Int) (ga gb : Nat) (ca : Array Value) (m : Int) : Prop where
  br : BR w W v i gap
  pa : W.heap[ga]? = some (.cells ca 27 (0, 0))
  pb : W.heap[gb]? = some (.cells #[.int .i64 m] 3 (0, 0))
  lo : w.heap.size + 1 + 1 + 1 < ga ∧ ga < gb

theorem QR.grow {w W W' : World} {v : Value} {i gap : Int} {ga gb : Nat} {ca : Array Value} {m : Int} (h : QR w W v i gap ga gb ca m) (hb : Below W.heap.size W W') : QR w W' v i gap ga gb ca m :=
  ⟨h.br.grow hb, (hb.block _ (hlt h.pa)).trans h.pa, (hb.block _ (hlt h.pb)).trans h.pb, h.lo⟩

theorem QR.put {w W : World} {v : Value} {i gap : Int} {ga gb : Nat} {ca : Array Value} {m : Int} (h : QR w W v i gap ga gb ca m) (m' : Int) : QR w (W.setCell ⟨gb, 0, none⟩ (.int .i64 m')) v i gap ga gb ca m' := by
  obtain ⟨l1, l2⟩ := h.lo
  have keep : ∀ q, q ≠ gb → (W.setCell ⟨gb, 0, none⟩ (.int .i64 m')).heap[q]? = W.heap[q]? := fun q hq => Below.heap_setCell _ _ _ _ hq
  refine ⟨⟨h.br.bel.setCell (show w.heap.size ≤ gb by omega) _, (keep _ (by omega)).trans h.br.b0, (keep _ (by omega)).trans h.br.b1, (keep _ (by omega)).trans h.br.b2, (keep _ (by omega)).trans h.br.res⟩, (keep _ (by omega)).trans h.pa, ?_, h.lo⟩
  rw [setCell_at h.pb]; rfl

theorem ad_ends {w : World} {g : Nat} {c k p : Value} {a : Act} (h : w.heap[g]? = some (.cells #[c, k] 30 (0, 0))) (h2 : a.tmps[8]?.getD undef = p) (h3 : a.tmps[9]?.getD undef = .pointer (some ⟨g, 0, none⟩)) :
    (results Tryd.f9 a.tmps).run Tryd.prog w = .ok (.tuple #[p, .agg #[c, k]]) w := by
  obtain ⟨c1, f1, l1⟩ := cells_of (l := [_, _]) h
  have c10 := c1 0 _ rfl
  have c11 := c1 1 _ rfl
  simp [results, Tryd.results9, go_sem, h2, h3, c10, c11]

set_option maxRecDepth 20000 in
set_option maxHeartbeats 4000000 in
theorem ad_any (w : World) (l : List Ta) (v : Value) (i gap sp : Int) (hS : ∀ x ∈ l, x.nm.size ≤ 9223372036854775807) (hv : RowSl Ta.vals w l v) :
    Calls Tryd.prog 9 #[v, .int .i64 i, .int .i64 gap, .int .i64 sp] w fun r w' => r = .returned (.tuple #[.int .i64 (rdF l i gap sp).1, .agg #[.int .i64 (rdF l i gap sp).2.1, .int .i64 (rdF l i gap sp).2.2]]) ∧ Below w.heap.size w w' := by
  have HC := ResponseOf_any ((((w.alloc (.cells #[v] 22)).alloc (.cells #[.int .i64 i] 3)).alloc (.cells #[.int .i64 gap] 3)).alloc (.cells #[.int .i64 0, .int .i64 0] 30)) l v i 0 hS (hv.below (BR.start w v i gap).bel)
  have HS : Hid (BR w ((((w.alloc (.cells #[v] 22)).alloc (.cells #[.int .i64 i] 3)).alloc (.cells #[.int .i64 gap] 3)).alloc (.cells #[.int .i64 0, .int .i64 0] 30)) v i gap ∧ RowSl Ta.vals w l v) := ⟨BR.start w v i gap, hv⟩
  obtain ⟨ad, c, rfl⟩ := hv.len
  clear hv
  obtain ⟨a1, z1, z2, hz⟩ : ∃ a1 z1 z2, responseF l i 0 = (a1, (z1, z2)) := ⟨_, _, _, rfl⟩
  obtain ⟨y0, y1, y2, hy⟩ : ∃ y0 y1 y2, rdF l i gap sp = (y0, (y1, y2)) := ⟨_, _, _, rfl⟩
  have HY : Hid (rdF l i gap sp = (y0, (y1, y2))) := hy
  have HZ : Hid (responseF l i 0 = (a1, (z1, z2))) := hz
  rw [hz] at HC
  rw [hy]
  dsimp only at HC ⊢
  clear hz hy
  go_enter Tryd.func9, Tryd.ntmps9
  go_upto_region 2 with (go_at_call 30; refine HC.mono ?_; rintro r w1 ⟨rfl, hb1⟩; have H2 : Hid (BR w (w1.alloc (.cells #[.int .i64 z1, .int .i64 z2] 30)) (.slice ad l.length c) i gap) := (HS.out.1.grow hb1).grow (below_new _ _); have hl3 : w.heap.size + 1 + 1 + 1 < w1.heap.size := hlt (HS.out.1.grow hb1).res; clear hb1 HC)
  obtain ⟨gs, -, gl⟩ := cells_of (l := [_, _]) (heap_alloc_new w1 (.cells #[.int .i64 z1, .int .i64 z2] 30))
  have g0 := gs 0 _ rfl
  have g1 := gs 1 _ rfl
  clear gs
  generalize w1.alloc (.cells #[.int .i64 z1, .int .i64 z2] 30) = w2 at *
  obtain ⟨rs, rf, rl⟩ := cells_of (l := [_, _]) H2.out.res; have r0 := rs 0 _ rfl; have r1 := rs 1 _ rfl; have rf0 := rf 0; have rf1 := rf 1; clear rs rf
  by_cases h0 : z1 = 0
  rotate_left 1
  · have hzb : (z1 != 0) = true := by simpa using h0
    go_upto_region 3 with fail
    go_region
    all_goals go_wp2_with fail
    all_goals
      have hx := H2.out.set (.int .i64 z1) (.int .i64 z2)
      refine bodyPost_ret (ad_ends hx.1 rfl rfl) rfl ?_
      have e := HY.out
      unfold rdF at e
      rw [HZ.out, if_pos h0] at e
      simp at e
      obtain ⟨e1, e2, e3⟩ := e
      subst e1 e2 e3
      exact ⟨rfl, hx.2.drew⟩
  subst h0
  obtain ⟨n, w0, hin, hn, hX, -⟩ := rd_start (l := l) (i := i) (by rw [HZ.out])
  subst hin
  obtain ⟨-, hDT, -, hl8, hst, -⟩ := chkX_ok hX
  have hbx2 := (cells_of (l := [_]) H2.out.b2).1 0 _ rfl
  have HZ0 : Hid ((responseF l (n : Int) 0).2.1 = 0) := by
    have e : (responseF l (n : Int) 0).2.1 = 0 := by rw [HZ.out]
    exact e
  by_cases q1 : gap < 1
  · have q1b : decide (gap < 1) = true := decide_eq_true q1
    have hw : within gap 1 20000 = false := by unfold within; simp; omega
    go_wp2_with (go_at_call 31; refine (F_any _ _ _).mono ?_; rintro r w5 ⟨rfl, hb5⟩; have H5 : Hid (BR w w5 (.slice ad l.length c) (n : Int) gap) := H2.out.grow hb5; obtain ⟨rs, rf, rl⟩ := cells_of (l := [_, _]) H5.out.res; have q0 := rs 0 _ rfl; have q1 := rs 1 _ rfl; have qf0 := rf 0; have qf1 := rf 1; clear rs rf hb5)
    all_goals
      have hx := H5.out.set (.int .i64 3) (.int .i64 0)
      refine bodyPost_ret (ad_ends hx.1 rfl rfl) rfl ?_
      have e := HY.out
      unfold rdF at e
      rw [if_neg (by rw [HZ0.out]; simp), if_pos (.inl hw)] at e
      simp at e
      obtain ⟨e1, e2, e3⟩ := e
      subst e1 e2 e3
      exact ⟨rfl, hx.2⟩
  have q1b : decide (gap < 1) = false := decide_eq_false q1
  by_cases q2 : 20000 < gap
  · have q2b : decide (20000 < gap) = true := decide_eq_true q2
    have hw : within gap 1 20000 = false := by unfold within; simp; omega
    go_wp2_with (go_at_call 31; refine (F_any _ _ _).mono ?_; rintro r w5 ⟨rfl, hb5⟩; have H5 : Hid (BR w w5 (.slice ad l.length c) (n : Int) gap) := H2.out.grow hb5; obtain ⟨rs, rf, rl⟩ := cells_of (l := [_, _]) H5.out.res; have q0 := rs 0 _ rfl; have q1 := rs 1 _ rfl; have qf0 := rf 0; have qf1 := rf 1; clear rs rf hb5)
    all_goals
      have hx := H5.out.set (.int .i64 3) (.int .i64 0)
      refine bodyPost_ret (ad_ends hx.1 rfl rfl) rfl ?_
      have e := HY.out
      unfold rdF at e
      rw [if_neg (by rw [HZ0.out]; simp), if_pos (.inl hw)] at e
      simp at e
      obtain ⟨e1, e2, e3⟩ := e
      subst e1 e2 e3
      exact ⟨rfl, hx.2⟩
  have q2b : decide (20000 < gap) = false := decide_eq_false q2
  by_cases q3 : sp < 0
  · have q3b : decide (sp < 0) = true := decide_eq_true q3
    have hw : within sp 0 10000 = false := by unfold within; simp; omega
    go_wp2_with (go_at_call 31; refine (F_any _ _ _).mono ?_; rintro r w5 ⟨rfl, hb5⟩; have H5 : Hid (BR w w5 (.slice ad l.length c) (n : Int) gap) := H2.out.grow hb5; obtain ⟨rs, rf, rl⟩ := cells_of (l := [_, _]) H5.out.res; have q0 := rs 0 _ rfl; have q1 := rs 1 _ rfl; have qf0 := rf 0; have qf1 := rf 1; clear rs rf hb5)
    all_goals
      have hx := H5.out.set (.int .i64 3) (.int .i64 0)
      refine bodyPost_ret (ad_ends hx.1 rfl rfl) rfl ?_
      have e := HY.out
      unfold rdF at e
      rw [if_neg (by rw [HZ0.out]; simp), if_pos (.inr hw)] at e
      simp at e
      obtain ⟨e1, e2, e3⟩ := e
      subst e1 e2 e3
      exact ⟨rfl, hx.2⟩
  have q3b : decide (sp < 0) = false := decide_eq_false q3
  by_cases q4 : 10000 < sp
  · have q4b : decide (10000 < sp) = true := decide_eq_true q4
    have hw : within sp 0 10000 = false := by unfold within; simp; omega
    go_wp2_with (go_at_call 31; refine (F_any _ _ _).mono ?_; rintro r w5 ⟨rfl, hb5⟩; have H5 : Hid (BR w w5 (.slice ad l.length c) (n : Int) gap) := H2.out.grow hb5; obtain ⟨rs, rf, rl⟩ := cells_of (l := [_, _]) H5.out.res; have q0 := rs 0 _ rfl; have q1 := rs 1 _ rfl; have qf0 := rf 0; have qf1 := rf 1; clear rs rf hb5)
    all_goals
      have hx := H5.out.set (.int .i64 3) (.int .i64 0)
      refine bodyPost_ret (ad_ends hx.1 rfl rfl) rfl ?_
      have e := HY.out
      unfold rdF at e
      rw [if_neg (by rw [HZ0.out]; simp), if_pos (.inr hw)] at e
      simp at e
      obtain ⟨e1, e2, e3⟩ := e
      subst e1 e2 e3
      exact ⟨rfl, hx.2⟩
  have q4b : decide (10000 < sp) = false := decide_eq_false q4
  have hgp : 1 ≤ gap ∧ gap ≤ 20000 := by omega
  have hsp : 0 ≤ sp ∧ sp ≤ 10000 := by omega
  have HW : Hid (within gap 1 20000 = true ∧ within sp 0 10000 = true) := by
    have e1 : within gap 1 20000 = true := by unfold within; simp; omega
    have e2 : within sp 0 10000 = true := by unfold within; simp; omega
    exact ⟨e1, e2⟩
  have hbx0 := (cells_of (l := [_]) H2.out.b0).1 0 _ rfl
  have hbx1 := (cells_of (l := [_]) H2.out.b1).1 0 _ rfl
  have HV2 : RowSl Ta.vals w2 l (.slice ad l.length c) := HS.out.2.below H2.out.bel
  obtain ⟨ad9, c9, e9, -, hcap9, hrow9⟩ := HV2
  cases e9
  rcases hrow9 with h | ⟨b, o, rfl, hrow⟩
  · rw [h] at hn; simp at hn
  obtain ⟨t0, t1, t2, t3, t4, t5, t6⟩ := ta_at hrow (Tk_get hn)
  have hni : (n : Int) < (l.length : Int) := by omega
  have lb : b < w2.heap.size := World.block_lt_of_cell? _ _ t0
  have HP : Hid ((chkX l).1 = 0 ∧ (∀ x ∈ l, stands x = true) ∧ l.length ≤ 8 ∧ RowSl Ta.vals w l (.slice (some ⟨b, o, none⟩) l.length c)) := ⟨hX, hst, hl8, HS.out.2⟩
  obtain ⟨j1, j2, j3, j4, j5, j6, j7, j8, -, -⟩ := stands_t (stands_mem hst hn)
  have EX : Hid (∃ x, Tk l n = x) := ⟨_, rfl⟩
  clear hrow hX hst HS hDT
  generalize hx : Tk l n = x at *
  have HTk : Hid (Tk l n = x) := hx
  clear hx EX
  obtain ⟨xn, xc, xt, xd, xj, xo, xp⟩ := x
  dsimp only at *
  have HD := dlF_loss (p := xp) hsp.1 HP.out.2.1
  go_upto_region 8 with fail
  have HQ0 : Hid (QR w ((w2.alloc (.cells #[.string xn, .int .i64 xc, .int .i64 xt, .int .i64 xd, .int .i64 xj, .int .i64 xo, .int .i64 xp] 27)).alloc (.cells #[.int .i64 0] 3)) (.slice (some ⟨b, o, none⟩) l.length c) (n : Int) gap w2.heap.size (w2.heap.size + 1) #[.string xn, .int .i64 xc, .int .i64 xt, .int .i64 xd, .int .i64 xj, .int .i64 xo, .int .i64 xp] 0) := ⟨H2.out.grow (below_seq (below_new _ _) (below_new _ _)), (Below.heap_alloc _ _ _ (by simp)).trans (heap_alloc_new _ _), heap_new2 _ _ _, by omega, by omega⟩
  have kx0 := (cells_of (l := [_]) HQ0.out.br.b0).1 0 _ rfl
  clear t0 t1 t2 t3 t4 t5 t6 hbx0 hbx1 hbx2 r0 r1 rf0 rf1 g0 g1
  generalize (w2.alloc (.cells #[.string xn, .int .i64 xc, .int .i64 xt, .int .i64 xd, .int .i64 xj, .int .i64 xo, .int .i64 xp] 27)).alloc (.cells #[.int .i64 0] 3) = w3 at *
  have hga : w.heap.size + 1 + 1 + 1 < w2.heap.size := HQ0.out.lo.1
  generalize hg1 : w2.heap.size = ga at *
  go_wp2_with fail
  clear kx0
  go_loopw [49] (fun iv wr => ∃ (k : Nat) (m : Int), k ≤ l.length ∧ iv = .int .i64 (k : Int) ∧ QR w wr (.slice (some ⟨b, o, none⟩) l.length c) (n : Int) gap ga (ga + 1) #[.string xn, .int .i64 xc, .int .i64 xt, .int .i64 xd, .int .i64 xj, .int .i64 xo, .int .i64 xp] m ∧ Hid (dlF xp sp (l.drop k) m = lossF l xp sp)) (fun iv _ => l.length - (intOf iv).toNat)
  case atStart => exact ⟨0, 0, Nat.zero_le _, rfl, HQ0.out, HD⟩
  case round =>
    obtain ⟨k, m, hk, rfl, hqr, HQ⟩ := hrel
    have HR : Hid (QR w wr (.slice (some ⟨b, o, none⟩) l.length c) (n : Int) gap ga (ga + 1) #[.string xn, .int .i64 xc, .int .i64 xt, .int .i64 xd, .int .i64 xj, .int .i64 xo, .int .i64 xp] m) := hqr
    have a6 := (cells_of (l := [_, _, _, _, _, _, _]) hqr.pa).1 6 _ rfl
    obtain ⟨bs, bf, bl⟩ := cells_of (l := [_]) hqr.pb
    have b0 := bs 0 _ rfl
    have bf0 := bf 0
    have al : ga < wr.heap.size := hlt hqr.pa
    clear bs bf
    by_cases hkl : k < l.length
    · obtain ⟨x, hx, hd⟩ := drop_at hkl
      have hrow := (HP.out.2.2.2.below hqr.br.bel)
      obtain ⟨ad8, c8, e8, -, hcap8, hrow8⟩ := hrow
      cases e8
      rcases hrow8 with h | ⟨b', o', e', hrow'⟩
      · rw [h] at hkl; simp at hkl
      cases e'
      obtain ⟨y0', y1', y2', y3', y4', y5', y6'⟩ := ta_at hrow' hx
      have hq := HQ.out
      rw [hd, dlF] at hq
      obtain ⟨un, uc, ut, ud, uj, uo, up⟩ := x
      dsimp only at y0' y1' y2' y3' y4' y5' y6' hq
      have lb2 : b < wr.heap.size := World.block_lt_of_cell? _ _ y0'
      have hki : (k : Int) < (l.length : Int) := by omega
      clear hx hd hqr HQ hrow'
      have hdn : ∃ dv, dn sp uc = dv := ⟨_, rfl⟩
      obtain ⟨dv, hdv⟩ := hdn
      rw [hdv] at hq
      have fin : ∀ W, (QR w W (.slice (some ⟨b, o, none⟩) l.length c) (n : Int) gap ga (ga + 1) #[.string xn, .int .i64 xc, .int .i64 xt, .int .i64 xd, .int .i64 xj, .int .i64 xo, .int .i64 xp] (if xp ≤ up ∧ m < dv then dv else m)) → ∃ m', QR w W (.slice (some ⟨b, o, none⟩) l.length c) (n : Int) gap ga (ga + 1) #[.string xn, .int .i64 xc, .int .i64 xt, .int .i64 xd, .int .i64 xj, .int .i64 xo, .int .i64 xp] m' ∧ dlF xp sp (l.drop (k + 1)) m' = lossF l xp sp := fun W hW => ⟨_, hW, hq⟩
      have FIN : Hid (∀ W, (QR w W (.slice (some ⟨b, o, none⟩) l.length c) (n : Int) gap ga (ga + 1) #[.string xn, .int .i64 xc, .int .i64 xt, .int .i64 xd, .int .i64 xj, .int .i64 xo, .int .i64 xp] (if xp ≤ up ∧ m < dv then dv else m)) → ∃ m', QR w W (.slice (some ⟨b, o, none⟩) l.length c) (n : Int) gap ga (ga + 1) #[.string xn, .int .i64 xc, .int .i64 xt, .int .i64 xd, .int .i64 xj, .int .i64 xo, .int .i64 xp] m' ∧ dlF xp sp (l.drop (k + 1)) m' = lossF l xp sp) := fin
      have HG : Hid (QR w (wr.alloc (.cells #[.string un, .int .i64 uc, .int .i64 ut, .int .i64 ud, .int .i64 uj, .int .i64 uo, .int .i64 up] 27)) (.slice (some ⟨b, o, none⟩) l.length c) (n : Int) gap ga (ga + 1) #[.string xn, .int .i64 xc, .int .i64 xt, .int .i64 xd, .int .i64 xj, .int .i64 xo, .int .i64 xp] m) := HR.out.grow (below_new _ _)
      clear fin hq
      have bne : ¬ ga + 1 = wr.heap.size := by omega
      have ane : ¬ ga = wr.heap.size := by omega
      by_cases s1 : 0 < sp ∧ sp < uc
      · have s1b : decide (0 < sp) = true := decide_eq_true s1.1
        have s1c : decide (sp < uc) = true := decide_eq_true s1.2
        have ev : dv = sp := by rw [← hdv]; unfold dn; rw [if_pos s1]
        subst ev
        by_cases s2 : xp ≤ up
        · have s2b : decide (xp ≤ up) = true := decide_eq_true s2
          by_cases s3 : m < dv
          · have s3b : decide (m < dv) = true := decide_eq_true s3
            go_wp2_with fail
            obtain ⟨m', e1, e2⟩ := FIN.out _ (by rw [if_pos ⟨s2, s3⟩]; exact (HR.out.put dv).grow (below_new _ (.cells #[.string un, .int .i64 uc, .int .i64 ut, .int .i64 ud, .int .i64 uj, .int .i64 uo, .int .i64 up] 27)))
            exact ⟨⟨k + 1, m', by omega, by simp, e1, e2⟩, by simp [intOf]; omega⟩
          · have s3b : decide (m < dv) = false := decide_eq_false s3
            go_wp2_with fail
            obtain ⟨m', e1, e2⟩ := FIN.out _ (by rw [if_neg (fun h => s3 h.2)]; exact HG.out)
            exact ⟨⟨k + 1, m', by omega, by simp, e1, e2⟩, by simp [intOf]; omega⟩
        · have s2b : decide (xp ≤ up) = false := decide_eq_false s2
          go_wp2_with fail
          obtain ⟨m', e1, e2⟩ := FIN.out _ (by rw [if_neg (fun h => s2 h.1)]; exact HG.out)
          exact ⟨⟨k + 1, m', by omega, by simp, e1, e2⟩, by simp [intOf]; omega⟩
      · have ev : dv = uc := by rw [← hdv]; unfold dn; rw [if_neg s1]
        subst ev
        have s1x : (0 < sp ∧ ¬ sp < dv) ∨ ¬ 0 < sp := by omega
        clear hdv
        by_cases s2 : xp ≤ up
        · have s2b : decide (xp ≤ up) = true := decide_eq_true s2
          by_cases s3 : m < dv
          · have s3b : decide (m < dv) = true := decide_eq_true s3
            rcases s1x with ⟨s4, s5⟩ | s4
            all_goals
              go_wp2_with fail
              obtain ⟨m', e1, e2⟩ := FIN.out _ (by rw [if_pos ⟨s2, s3⟩]; exact (HR.out.put dv).grow (below_new _ (.cells #[.string un, .int .i64 dv, .int .i64 ut, .int .i64 ud, .int .i64 uj, .int .i64 uo, .int .i64 up] 27)))
              exact ⟨⟨k + 1, m', by omega, by simp, e1, e2⟩, by simp [intOf]; omega⟩
          · have s3b : decide (m < dv) = false := decide_eq_false s3
            rcases s1x with ⟨s4, s5⟩ | s4
            all_goals
              go_wp2_with fail
              obtain ⟨m', e1, e2⟩ := FIN.out _ (by rw [if_neg (fun h => s3 h.2)]; exact HG.out)
              exact ⟨⟨k + 1, m', by omega, by simp, e1, e2⟩, by simp [intOf]; omega⟩
        · have s2b : decide (xp ≤ up) = false := decide_eq_false s2
          rcases s1x with ⟨s4, s5⟩ | s4
          all_goals
            go_wp2_with fail
            obtain ⟨m', e1, e2⟩ := FIN.out _ (by rw [if_neg (fun h => s2 h.1)]; exact HG.out)
            exact ⟨⟨k + 1, m', by omega, by simp, e1, e2⟩, by simp [intOf]; omega⟩
    · have hke : k = l.length := by omega
      subst hke
      have hm := HQ.out
      rw [List.drop_length, dlF] at hm
      subst hm
      obtain ⟨ms, -, ml⟩ := cells_of (l := [_, _, _, _, _, _, _]) hqr.pa
      have m1 := ms 1 _ rfl
      have m3 := ms 3 _ rfl
      have m4 := ms 4 _ rfl
      have d0 := (cells_of (l := [_]) hqr.br.b0).1 0 _ rfl
      have d1 := (cells_of (l := [_]) hqr.br.b1).1 0 _ rfl
      have d2 := (cells_of (l := [_]) hqr.br.b2).1 0 _ rfl
      clear ms hqr bf0
      obtain ⟨p1, p2, p3, p6⟩ := HP.out
      have ex := HTk.out
      have hST := least_any wr (xd - xj) (.pointer (some ⟨ga, 0, none⟩)) (.pointer (some ⟨w.heap.size + 1 + 1, 0, none⟩)) (.pointer (some ⟨ga + 1, 0, none⟩)) (.pointer (some ⟨w.heap.size, 0, none⟩)) (.pointer (some ⟨w.heap.size + 1, 0, none⟩)) (askR l n gap sp) (by omega)
        (fun W hb z z1 z2 => askd_any W l n gap sp z _ ga (w.heap.size + 1 + 1) (ga + 1) w.heap.size (w.heap.size + 1) p3 hn p2 (by omega) hgp hsp.1 ((p6.below HR.out.br.bel).below hb) (by rw [ex]; exact below_cell hb m1) (by rw [ex]; exact below_cell hb a6) (below_cell hb d2) (by rw [ex]; exact below_cell hb b0) (below_cell hb d0) (below_cell hb d1))
      have hsh := wOf_shift (ask := askR l n gap sp) (jj := xj) (d := xd) (by omega)
      have hrg : 0 ≤ wOf (askR l n gap sp) 0 (xd - xj) ∧ wOf (askR l n gap sp) 0 (xd - xj) ≤ 20000 := by
        by_cases hd0 : 0 ≤ xd - xj
        · have := wOf_range (ask := askR l n gap sp) (jj := 0) (d := xd - xj) (Int.le_refl _) hd0
          omega
        · have : wOf (askR l n gap sp) 0 (xd - xj) = 0 := wOf_none fun v h1 h2 => by omega
          omega
      have HRD : Hid (rdF l (n : Int) gap sp = if wOf (askR l n gap sp) 0 (xd - xj) = 0 then (0, (13, (n : Int))) else (wOf (askR l n gap sp) 0 (xd - xj) + xj, (0, 0))) := by
        show _ = _
        unfold rdF
        rw [if_neg (by rw [HZ0.out]; simp), if_neg (by rw [HW.out.1, HW.out.2]; simp), Int.toNat_natCast, ex]
        dsimp only
        rw [hsh]
        by_cases h : wOf (askR l n gap sp) 0 (xd - xj) = 0
        · rw [if_pos h, if_pos rfl, if_pos h]
        · rw [if_neg h, if_neg (by omega), if_neg h]
      clear hsh p1 p2 p3 p6 ex
      generalize wOf (askR l n gap sp) 0 (xd - xj) = q at *
      have e2 : IntKind.i64.wrap (xd - xj) = xd - xj := by rw [IntKind.wrap_i64]; omega
      have e3 : IntKind.i64.wrap (q + xj) = q + xj := by rw [IntKind.wrap_i64]; omega
      by_cases hq : q = 0
      · subst hq
        go_wp2_with (first | (go_at_call 31; refine (F_any _ _ _).mono ?_; rintro r w7 ⟨rfl, hb7⟩; have H2 : Hid (BR w w7 (.slice (some ⟨b, o, none⟩) l.length c) (n : Int) gap) := H6.out.grow hb7; obtain ⟨rs, rf, rl⟩ := cells_of (l := [_, _]) H2.out.res; have r0 := rs 0 _ rfl; have r1 := rs 1 _ rfl; have rf0 := rf 0; have rf1 := rf 1; clear rs rf; clear hb7) | (go_at_call 32; refine hST.mono ?_; rintro r w6 ⟨rfl, hb6⟩; have H6 : Hid (BR w w6 (.slice (some ⟨b, o, none⟩) l.length c) (n : Int) gap) := HR.out.br.grow hb6; have d1' := below_cell hb6 d1; clear hb6 hST))
        all_goals
          have hx := H2.out.set (.int .i64 13) (.int .i64 (n : Int))
          refine bodyPost_ret (ad_ends hx.1 rfl rfl) rfl ?_
          have e := HY.out
          rw [HRD.out, if_pos trivial] at e
          simp at e
          obtain ⟨f1, f2, f3⟩ := e
          subst f1 f2 f3
          exact ⟨rfl, hx.2⟩
      · have hqb : (q == 0) = false := by simp [hq]
        go_wp2_with (go_at_call 32; refine hST.mono ?_; rintro r w6 ⟨rfl, hb6⟩; have H2 : Hid (BR w w6 (.slice (some ⟨b, o, none⟩) l.length c) (n : Int) gap) := HR.out.br.grow hb6; have m4' := below_cell hb6 m4; obtain ⟨rs, rf, rl⟩ := cells_of (l := [_, _]) H2.out.res; have r0 := rs 0 _ rfl; have r1 := rs 1 _ rfl; have rf0 := rf 0; have rf1 := rf 1; clear rs rf; clear hb6 hST)
        all_goals
          have hx := H2.out.set (.int .i64 0) (.int .i64 0)
          refine bodyPost_ret (ad_ends hx.1 rfl rfl) rfl ?_
          have e := HY.out
          rw [HRD.out, if_neg hq] at e
          simp at e
          obtain ⟨f1, f2, f3⟩ := e
          subst f1 f2 f3
          exact ⟨rfl, hx.2⟩
end Go.Proofs.YtekbkcgpjkecbalDoor
namespace Go.Proofs.YtekbkcgpjkecbalDoor
open Go.ChangeShapes Go.WideShapes Go.ChangeAt Go.RowKit

/-- A fault's block that stays. -/
def FL (W : World) (G : Nat) (z1 z2 : Int) : Prop := W.heap[G]? = some (.cells #[.int .i64 z1, .int .i64 z2] 30 (0, 0))
theorem FL.grow {W W' : World} {G : Nat} {z1 z2 : Int} (h : FL W G z1 z2) (hb : Below W.heap.size W W') : FL W' G z1 z2 := (hb.block G (Array.getElem?_eq_some_iff.1 h).1).trans h
theorem FL.new (W : World) (z1 z2 : Int) : FL (W.alloc (.cells #[.int .i64 z1, .int .i64 z2] 30)) W.heap.size z1 z2 := heap_alloc_new _ _
theorem FL.cells {W : World} {G : Nat} {z1 z2 : Int} (h : FL W G z1 z2) : W.cell? ⟨G, 0, none⟩ = some (.int .i64 z1) ∧ W.cell? ⟨G, 1, none⟩ = some (.int .i64 z2) ∧ G < W.heap.size := by
  obtain ⟨c1, f1, l1⟩ := cells_of (l := [_, _]) h
  exact ⟨c1 0 _ rfl, c1 1 _ rfl, l1⟩

set_option maxRecDepth 20000 in
set_option maxHeartbeats 8000000 in
theorem rr_walk (w : World) (l : List Ta) (i gap sp : Int) (v : Value) (hS : ∀ x ∈ l, x.nm.size ≤ 9223372036854775807) (hg : TaAt w 0 0 noT) (hv : RowSl Ta.vals w l v) :
    Calls Tryd.prog 3 #[v, .int .i64 i, .int .i64 gap, .int .i64 sp] w fun r w' => r = .returned (.bool true) ∧ Below w.heap.size w w' := by
  obtain ⟨ad, c, rfl⟩ := hv.len
  have HV : Hid ((∀ x ∈ l, x.nm.size ≤ 9223372036854775807) ∧ TaAt w 0 0 noT ∧ RowSl Ta.vals w l (.slice ad l.length c)) := ⟨hS, hg, hv⟩
  clear hS hg hv
  have HL := LendT_any
  have HT := StillT_any
  unfold Ta.val at HL HT
  go_enter Tryd.func3, Tryd.ntmps3
  go_wp2_with (go_at_call 5; refine (S8.anew_any _).mono ?_; rintro r w4 ⟨rfl, hb4⟩; have H4 : Hid (Below w.heap.size w w4) := hb4; clear hb4)
  by_cases hl : l.length ≤ 5000
  · have hl' : decide ((l.length : Int) ≤ 5000) = true := by simp; omega
    have A9 := fun W (hb : Below w.heap.size w W) u (hu : RowSl Ta.vals W l u) => rd_any W l u i gap sp (by omega) hu
    have A10 := fun W (hb : Below w.heap.size w W) => ad_any W l _ i gap sp HV.out.1 (HV.out.2.2.below hb)
    generalize (rdF l i gap sp).1 = p0 at *
    generalize (rdF l i gap sp).2.1 = p1 at *
    generalize (rdF l i gap sp).2.2 = p2 at *
    go_wp2_with (go_at_call 6; refine (few_any _ _).mono ?_; rintro r w5 ⟨rfl, rfl⟩; rw [hl']; try (obtain ⟨e0, e1, e2, e3, e4, e5, e6⟩ := HV.out.2.1.below H4.out))
    go_wp2_with (go_at_call 7; refine (HL _ l noT _ (by omega) (HV.out.2.2.below H4.out)).mono ?_; rintro r w6 ⟨u6, rfl, hlent, hb6⟩; obtain ⟨b6, o6, c6, rfl, -⟩ := id hlent; have H6 : Hid (Below w.heap.size w w6 ∧ Lent Ta.vals w6 l noT (.slice (some ⟨b6, o6, none⟩) l.length c6)) := ⟨below_seq H4.out hb6, hlent⟩; clear e0 e1 e2 e3 e4 e5 e6 hlent hb6 H4 HL)
    go_wp2_with (go_at_call 8; refine (A9 _ H6.out.1 _ H6.out.2.plain).mono ?_; rintro r w8 ⟨rfl, hb8⟩; have H8 : Hid (Below w.heap.size w (w8.alloc (.cells #[.int .i64 p1, .int .i64 p2] 30)) ∧ Lent Ta.vals (w8.alloc (.cells #[.int .i64 p1, .int .i64 p2] 30)) l noT (.slice (some ⟨b6, o6, none⟩) l.length c6) ∧ FL (w8.alloc (.cells #[.int .i64 p1, .int .i64 p2] 30)) w8.heap.size p1 p2) := ⟨below_seq H6.out.1 (below_seq hb8 (below_new _ _)), H6.out.2.below (below_seq hb8 (below_new _ _)), FL.new _ _ _⟩; clear hb8 H6 A9)
    go_wp2_with (go_at_call 9; refine (A10 _ H8.out.1).mono ?_; rintro r w9 ⟨rfl, hb9⟩; have H9 : Hid (Below w.heap.size w (w9.alloc (.cells #[.int .i64 p1, .int .i64 p2] 30)) ∧ Lent Ta.vals (w9.alloc (.cells #[.int .i64 p1, .int .i64 p2] 30)) l noT (.slice (some ⟨b6, o6, none⟩) l.length c6)) := ⟨below_seq H8.out.1 (below_seq hb9 (below_new _ _)), H8.out.2.1.below (below_seq hb9 (below_new _ _))⟩; obtain ⟨f80, f81, f8l⟩ := (H8.out.2.2.grow hb9).cells; obtain ⟨e0, e1, e2, e3, e4, e5, e6⟩ := HV.out.2.1.below (below_seq H8.out.1 hb9); have z9 : 0 < w9.heap.size := World.block_lt_of_cell? _ _ e0; have z8 : ¬ 0 = w9.heap.size := (by omega); clear hb9 H8 A10)
    go_wp2_with (go_at_call 10; refine (HT _ l noT _ _ (by omega) H9.out.2 (HV.out.2.2.below H9.out.1)).mono ?_; rintro r w13 ⟨rfl, hb13⟩; have H13 : Hid (Below w.heap.size w w13) := below_seq H9.out.1 hb13; clear hb13 H9 e0 e1 e2 e3 e4 e5 e6 HT)
    go_ret
    exact ⟨rfl, H13.out⟩
  · have hl' : decide ((l.length : Int) ≤ 5000) = false := by simp; omega
    go_wp2_with (go_at_call 6; refine (few_any _ _).mono ?_; rintro r w5 ⟨rfl, rfl⟩; rw [hl'])
    go_ret
    exact ⟨rfl, H4.out⟩
end Go.Proofs.YtekbkcgpjkecbalDoor
namespace Go.Proofs.YtekbkcgpjkecbalDoor
open Go.ChangeShapes Go.WideShapes Go.ChangeAt Go.RowKit

theorem own : ownKnob Tryd.prog.godebug = none := by kernel_rfl
theorem laidOut : laidOutB Tryd.prog = true := by kernel_rfl
theorem reads3 : Tryd.prog.readableRec 3 = true := by kernel_rfl
theorem lt3 : 3 < Tryd.prog.types.size := of_decide_eq_true (by kernel_rfl)
theorem reads22 : Tryd.prog.readableRec 22 = true := by kernel_rfl
theorem lt22 : 22 < Tryd.prog.types.size := of_decide_eq_true (by kernel_rfl)

set_option maxRecDepth 20000 in
theorem contractR (H : Type) (enc : TypeId × Value → H) (W : World) (base : Nat) (args : Array Value) (ds gs : List (DataW H)) (before : List MemPlace)
    (hval : ∀ (j : Nat) t v, Tryd.f3.params[j]? = some t → args[j]? = some v → Value.okWide Tryd.prog W .any base t v)
    (hW : DataW.Whole enc Tryd.prog Tryd.f3.params.toList Rows.redoRespondsSpec.vars false W args.toList ds gs before) (hL : laidMetH Tryd.prog Rows.redoRespondsRow.laid W) :
    Calls Tryd.prog 3 args W fun e W' => ∃ v, e = .returned v ∧ Rows.redoRespondsSpec.post enc Tryd.prog Tryd.f3 false true false false W args v W' := by
  have hW' := hW
  obtain ⟨p, q, hA0, hV, rfl, hfz, hnd⟩ := hW
  have hA : DataW.TrodAll enc Tryd.prog W 0 (fun _ => true) true Tryd.f3.params.toList args.toList ds p := hA0
  rw [Tryd.params3] at hA hval
  obtain ⟨v0, vs0, d0, ds0, p0, q0, hargs0, rfl, rfl, h0, r0⟩ := trodAll_cons hA
  obtain ⟨v1, vs1, d1, ds1, p1, q1, hargs1, rfl, rfl, h1, r1⟩ := trodAll_cons r0
  obtain ⟨v2, vs2, d2, ds2, p2, q2, hargs2, rfl, rfl, h2, r2⟩ := trodAll_cons r1
  obtain ⟨v3, vs3, d3, ds3, p3, q3, hargs3, rfl, rfl, h3, r3⟩ := trodAll_cons r2
  obtain ⟨rfl, rfl, rfl⟩ := trodAll_nil r3
  obtain rfl : args = #[v0, v1, v2, v3] := Array.toList_inj.1 (by rw [hargs0, hargs1, hargs2, hargs3])
  obtain ⟨rfl, rfl⟩ := trodVars_none hV
  obtain ⟨ad0, len0, cap0, rfl⟩ := okWide_slice Tryd.underlying22 (hval 0 22 v0 (by simp) (by simp))
  obtain ⟨n1, rfl⟩ := okWide_int Tryd.underlying3 (hval 1 3 v1 (by simp) (by simp))
  obtain ⟨n2, rfl⟩ := okWide_int Tryd.underlying3 (hval 2 3 v2 (by simp) (by simp))
  obtain ⟨n3, rfl⟩ := okWide_int Tryd.underlying3 (hval 3 3 v3 (by simp) (by simp))
  clear hA0 hargs0 hargs1 hargs2 hargs3
  simp only [List.append_nil] at hW'
  obtain ⟨l, rfl, hms, hsl⟩ := taSl_of_trod h0
  refine (rr_walk W l n1 n2 n3 _ hms (of_laid hL) hsl).mono fun e W' ⟨he, hbel⟩ => ?_
  subst he
  have hlt0 : ∀ x ∈ p0, x.block < W.heap.size := fun x hx => by
    obtain ⟨n, hn⟩ := h0
    exact DataW.trod_lt n _ _ _ hn x hx
  have hlt1 : ∀ x ∈ p1, x.block < W.heap.size := fun x hx => by
    obtain ⟨n, hn⟩ := h1
    exact DataW.trod_lt n _ _ _ hn x hx
  have hlt2 : ∀ x ∈ p2, x.block < W.heap.size := fun x hx => by
    obtain ⟨n, hn⟩ := h2
    exact DataW.trod_lt n _ _ _ hn x hx
  have hlt3 : ∀ x ∈ p3, x.block < W.heap.size := fun x hx => by
    obtain ⟨n, hn⟩ := h3
    exact DataW.trod_lt n _ _ _ hn x hx
  refine ⟨_, rfl, [d0, d1, d2, d3], [], p0 ++ (p1 ++ (p2 ++ p3)), [], p0 ++ (p1 ++ (p2 ++ p3)), [], hW', trodAll_mk1 (shut_bool Tryd.underlying4 _), ?_, rfl, hbel.frame _, fun h => by cases h⟩
  have s0 := WideElems.Trod_stays (W' := W') (sp' := fun b => decide (b < W.heap.size)) laidOut reads22 lt22 h0 (fun x hx => hbel.same (hlt0 x hx)) (fun x hx => by simpa using hlt0 x hx)
  have s1 := WideElems.Trod_stays (W' := W') (sp' := fun b => decide (b < W.heap.size)) laidOut reads3 lt3 h1 (fun x hx => hbel.same (hlt1 x hx)) (fun x hx => by simpa using hlt1 x hx)
  have s2 := WideElems.Trod_stays (W' := W') (sp' := fun b => decide (b < W.heap.size)) laidOut reads3 lt3 h2 (fun x hx => hbel.same (hlt2 x hx)) (fun x hx => by simpa using hlt2 x hx)
  have s3 := WideElems.Trod_stays (W' := W') (sp' := fun b => decide (b < W.heap.size)) laidOut reads3 lt3 h3 (fun x hx => hbel.same (hlt3 x hx)) (fun x hx => by simpa using hlt3 x hx)
  have e1 := trodAll_cons_mk s0 (trodAll_cons_mk s1 (trodAll_cons_mk s2 (trodAll_cons_mk s3 (trodAll_mk0 (enc := enc) (P := Tryd.prog) (w := W') (base := 0) (spare := fun b => decide (b < W.heap.size)) (held := true)))))
  rw [List.append_nil] at e1
  exact e1

/-- A world for the witness: the settled one, the variable holding what its initialiser lays. -/
def laidHeap (h : Array Obj) : Array Obj := h.modify 0 fun
  | .cells _ t frozen => .cells #[.string ⟨#[63]⟩, .int .i64 (-9), .int .i64 0, .int .i64 0, .int .i64 0, .int .i64 0, .int .i64 0] t frozen
  | o => o
theorem laid_metR (os : Os) : laidMet Tryd.prog Rows.redoRespondsRow.laid (({ World.holding Tryd.prog os ⟨#[], #[], []⟩ with heap := laidHeap (World.holding Tryd.prog os ⟨#[], #[], []⟩).heap } : World).forCall (fun _ _ => 0) ⟨#[], #[.slice none 0 0, .int .i64 0, .int .i64 0, .int .i64 0], []⟩).memory :=
  laidMet_of_run' 8 (by kernel_rfl) (by kernel_rfl)
theorem readsR (os : Os) {H : Type} (enc : TypeId × Value → H) : ∃ places, DataW.whole enc Tryd.prog (({ World.holding Tryd.prog os ⟨#[], #[], []⟩ with heap := laidHeap (World.holding Tryd.prog os ⟨#[], #[], []⟩).heap } : World).forCall (fun _ _ => 0) ⟨#[], #[.slice none 0 0, .int .i64 0, .int .i64 0, .int .i64 0], []⟩).memory Tryd.f3.params.toList Rows.redoRespondsSpec.vars false #[Value.slice none 0 0, .int .i64 0, .int .i64 0, .int .i64 0].toList 8 = some ([.nil, .lit (.int .i64 0), .lit (.int .i64 0), .lit (.int .i64 0)], [], places) :=
  ⟨[], by kernel_rfl⟩

set_option maxRecDepth 100000 in
theorem liftedR (os : Os) (started : os.Started) (H : Type) (enc : TypeId × Value → H) (F : Stop.Interp) :
    ReturnsInHanded {} Tryd.checked os 3 .any ((OpenSpec.ofChange Rows.redoRespondsSpec).preRow enc Tryd.prog Tryd.f3 Rows.redoRespondsRow.domain false Rows.redoRespondsRow.laid) (((OpenSpec.ofChange Rows.redoRespondsSpec).at F).post enc Tryd.prog Tryd.f3 false true false false) := by
  obtain ⟨places, hx⟩ := readsR os enc
  refine returnsInHanded_of_row (C := Tryd.checked) (s := OpenSpec.ofChange Rows.redoRespondsSpec) own started (by kernel_rfl) Tryd.func3
    (witness_row_at (enc := enc) (C := Tryd.checked) false ({ World.holding Tryd.prog os ⟨#[], #[], []⟩ with heap := laidHeap (World.holding Tryd.prog os ⟨#[], #[], []⟩).heap } : World) #[.slice none 0 0, .int .i64 0, .int .i64 0, .int .i64 0] rfl (by kernel_rfl) (by kernel_rfl) (by kernel_rfl)
      (OpenSpec.preRow_of_cond 8 hx (by kernel_rfl) (fun k hk => by cases hk) (by kernel_rfl) (laid_metR os))) ?_
  intro W base args ds gs before hval hW _ _ _ hL _ _
  exact contractR H enc W base args ds gs before hval hW hL

theorem saidR : Rows.RedoRespondsSaid :=
  OpenClaim.holds_of_cond 3 Tryd.f3 rfl rfl rfl rfl rfl rfl rfl ⟨rfl, rfl, rfl, rfl, rfl⟩ rfl rfl rfl rfl rfl (by kernel_rfl) Tryd.func3 (by kernel_rfl)
    (of_decide_eq_true (by kernel_rfl)) (by unfold Func.isWrapper; first | (rw [if_pos (by decide +kernel)]; kernel_rfl) | (rw [if_neg (by decide +kernel)]; exact ⟨rfl, rfl⟩))
    (fun os started H enc _ F => by rw [OpenClaim.pre_eq_preRow]; exact liftedR os started H enc F)

/-- No parameter wants a stand-in; the program's own looks. -/
theorem standlessR (f : FuncId) (fn : Func) (hf : Tryd.pinned.checked.prog.funcNamed "punctual/punctuallaw.RedoResponds" = some f) (hfn : Tryd.pinned.checked.prog.funcs[f]? = some fn) :
    false = Tryd.pinned.checked.prog.looks [] ∧ ∀ (j : Nat) t, fn.params[j]? = some t → Tryd.pinned.checked.prog.wantsStandIn t = false := by
  obtain rfl : f = 3 := Option.some.inj ((show Tryd.prog.funcNamed "punctual/punctuallaw.RedoResponds" = some 3 by kernel_rfl).symm.trans hf) |>.symm
  obtain rfl : fn = Tryd.f3 := (Option.some.inj (Tryd.func3.symm.trans hfn)).symm
  refine ⟨by kernel_rfl, fun j t ht => ?_⟩
  rw [Tryd.params3] at ht
  have h : t = 22 ∨ t = 3 := by
    have := Array.mem_of_getElem? ht
    simp at this
    first | exact this | omega
  rcases h with rfl | rfl
  · exact (show Tryd.prog.wantsStandIn 22 = false by kernel_rfl)
  · exact (show Tryd.prog.wantsStandIn 3 = false by kernel_rfl)

theorem redoResponds_card : Rows.RedoRespondsCardSaid :=
  Claim7.holds_tied_plain_at .later [] _ _ _ _ saidR (fun _ h => by cases h) (by kernel_rfl) (fun _ h => by cases h) redoResponds_row_tie rfl ⟨rfl, rfl⟩ (by kernel_rfl) rfl standlessR (by kernel_rfl)
end Go.Proofs.YtekbkcgpjkecbalDoor
