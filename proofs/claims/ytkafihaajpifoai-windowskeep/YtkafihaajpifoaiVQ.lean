import Derived.Test.YtkafihaajpifoaiVM
namespace Go.Proofs.Ytkafihaajpifoai
open Go.ChangeShapes Go.WideShapes Go.ChangeAt Go.RowKit

theorem roundUp_any (w : World) (a b : Int) (ha : 0 ≤ a ∧ a ≤ 1000000) (hb : 1 ≤ b ∧ b ≤ 1000000) : Calls Try.prog 44 #[.int .i64 a, .int .i64 b] w fun r w' => r = .returned (.int .i64 ((a + b - 1) / b)) ∧ w' = w := by
  have q1 : IntKind.i64.wrap (a + b) = a + b := by rw [IntKind.wrap_i64]; omega
  have q2 : IntKind.i64.wrap (a + b - 1) = a + b - 1 := by rw [IntKind.wrap_i64]; omega
  have q3 : (b == 0) = false := beq_eq_false_iff_ne.2 (by omega)
  have q4 : ¬ b = 0 := by omega
  have q5 : (a + b - 1).tdiv b = (a + b - 1) / b := Int.tdiv_eq_ediv_of_nonneg (by omega)
  have hq : 0 ≤ (a + b - 1) / b ∧ (a + b - 1) / b ≤ a + b - 1 := ⟨Int.ediv_nonneg (by omega) (by omega), Int.ediv_le_self _ (by omega)⟩
  have q6 : IntKind.i64.wrap ((a + b - 1) / b) = (a + b - 1) / b := by rw [IntKind.wrap_i64]; omega
  clear hq
  go_enter Try.func44, Try.ntmps44
  go_wp2_with fail
  go_ret
  exact ⟨rfl, rfl⟩

theorem up1_in {z : Int} {x : Ta} (hx : stands x = true) (hz : 0 ≤ z ∧ z ≤ 20000) : 0 ≤ up1 z x ∧ up1 z x ≤ 1000000000 := by
  obtain ⟨h1, h2, h3, h4, h5, h6, h7, h8, -, -⟩ := stands_t hx
  unfold up1
  have hq : 0 ≤ (z + x.j + x.t - 1) / x.t := Int.ediv_nonneg (by omega) (by omega)
  have hq2 : (z + x.j + x.t - 1) / x.t ≤ z + x.j + x.t - 1 := Int.ediv_le_self _ (by omega)
  refine ⟨Int.mul_nonneg hq (by omega), ?_⟩
  have : (z + x.j + x.t - 1) / x.t * x.c ≤ 40000 * 10000 := Int.mul_le_mul (by omega) (by omega) (by omega) (by omega)
  omega
theorem sumO_in {z : Int} (hz : 0 ≤ z ∧ z ≤ 20000) : ∀ (l : List Ta), (∀ x ∈ l, stands x = true) → 0 ≤ sumO z l ∧ sumO z l ≤ l.length * 1000000000
  | [], _ => by simp [sumO]
  | x :: r, h => by
    have h1 := up1_in (h x List.mem_cons_self) hz
    have h2 := sumO_in hz r (fun y hy => h y (List.mem_cons_of_mem _ hy))
    rw [sumO, List.length_cons]
    omega
set_option maxRecDepth 20000 in
set_option maxHeartbeats 4000000 in
theorem asked_any (w : World) (l : List Ta) (i : Nat) (z : Int) (v : Value) (hl : l.length ≤ 8) (hi : i < l.length) (hs : ∀ x ∈ l, stands x = true) (hz : 0 ≤ z ∧ z ≤ 20000) (hv : RowSl Ta.vals w l v) :
    Calls Try.prog 37 #[v, .int .i64 (i : Int), .int .i64 z] w fun r w' => r = .returned (.int .i64 (askF (Tk l i).c (othF (aheadP l i) i l 0) z)) ∧ Below w.heap.size w w' := by
  obtain ⟨ad, c, rfl, -, hcap, hrow⟩ := hv
  rcases hrow with h | ⟨b, o, rfl, hrow⟩
  · rw [h] at hi; simp at hi
  have HR : Hid ((∀ q u, (l.flatMap Ta.vals)[q]? = some u → w.cell? ⟨b, o + q, none⟩ = some u) ∧ ∀ x ∈ l, stands x = true) := ⟨hrow, hs⟩
  obtain ⟨-, c1, -, -, -, -, c6⟩ := ta_at hrow (Tk_get hi)
  obtain ⟨ip, hip⟩ : ∃ ip, (Tk l i).p = ip := ⟨_, rfl⟩
  obtain ⟨ic, hic⟩ : ∃ ic, (Tk l i).c = ic := ⟨_, rfl⟩
  rw [hip] at c6
  rw [hic] at c1
  have hicb : 1 ≤ ic ∧ ic ≤ 10000 := by have := stands_t (stands_mem hs hi); omega
  have lb : b < w.heap.size := World.block_lt_of_cell? _ _ c1
  have hii : (i : Int) < (l.length : Int) := by omega
  generalize ez : askF (Tk l i).c (othF (aheadP l i) i l 0) z = tot
  have EZ : Hid (ic + sumO z (othF (aheadP l i) i l 0) = tot) := by rw [← ez, ← hic]; rfl
  have HI : Hid ((Tk l i).p = ip) := hip
  clear hrow hs hip hic ez
  go_enter Try.func37, Try.ntmps37
  go_wp2_with fail
  go_loopw [7, 17] (fun sv iv wr => ∃ (k : Nat) (s : Int), k ≤ l.length ∧ sv = .int .i64 s ∧ iv = .int .i64 (k : Int) ∧ Below w.heap.size w wr ∧ (0 ≤ s ∧ s ≤ 10000 + k * 1000000000) ∧ Hid (s + sumO z (othF (aheadP l i) i (l.drop k) k) = tot)) (fun _ iv _ => l.length - (intOf iv).toNat)
  case atStart => exact ⟨0, ic, Nat.zero_le _, rfl, rfl, Below.refl _ _, by omega, EZ.out⟩
  case round =>
    obtain ⟨k, s, hk, rfl, rfl, hb, hsb, HQ⟩ := hrel
    have HB : Hid (Below w.heap.size w wr) := hb
    by_cases hkl : k < l.length
    · obtain ⟨x, hx, hd⟩ := drop_at hkl
      have hst := HR.out.2 x (List.mem_of_getElem? hx)
      obtain ⟨y0, y1, y2, y3, y4, y5, y6⟩ := ta_at (fun q u hq => below_cell hb (HR.out.1 q u hq)) hx
      have c6' := below_cell hb c6
      have hu := up1_in hst hz
      have hTx : Tk l k = x := by unfold Tk; rw [List.getD_eq_getElem?_getD, hx]; rfl
      have hq := HQ.out
      rw [hd, othF] at hq
      have hap : aheadP l i k = decide (ip ≤ x.p) := by unfold aheadP; rw [HI.out, hTx]
      obtain ⟨g1, g2, g3, g4, g5, g6, g7, g8, -, -⟩ := stands_t hst
      have hup : up1 z x = (z + x.j + x.t - 1) / x.t * x.c := rfl
      obtain ⟨xn, xc, xt, xd, xj, xo, xp⟩ := x
      dsimp only at y0 y1 y2 y3 y4 y5 y6 g1 g2 g3 g4 g5 g6 g7 g8 hap hup
      have lb2 : b < wr.heap.size := World.block_lt_of_cell? _ _ y0
      have hki : (k : Int) < (l.length : Int) := by omega
      clear hx hd hTx hb HQ hst
      by_cases n1 : k = i
      · subst n1
        rw [if_neg (by simp)] at hq
        have HE : Hid (s + sumO z (othF (aheadP l k) k (l.drop (k + 1)) (k + 1)) = tot) := hq
        clear hq hap hup hu c6
        go_wp2_with fail
        refine wp_region_noPanic ?_
        refine wp_region_held_drew (S := fun w' => w'.cell? ⟨wr.heap.size, 6, none⟩ = some (.int .i64 xp)) (by kernel_rfl) (by go_simp) (fun hHeld => ?_)
        refine take_at (i := 0) (n := 22) (v := ?_) rfl rfl (by kernel_rfl) (by kernel_rfl) (by kernel_rfl) (fun _ _ _ h => h) (Or.inl ⟨by rfl, ?_⟩) (by assumption) ?_
        rotate_left 1
        · intro wz hSw
          have s0 := hSw
          first | (go_simp; done) | (go_simp; with_reducible rfl)
        simp only [List.set_cons_zero, List.set_cons_succ]
        refine take_at (i := 1) (n := 23) (v := ?_) rfl rfl (by kernel_rfl) (by kernel_rfl) (by kernel_rfl) (fun _ _ _ h => h) (Or.inl ⟨by rfl, ?_⟩) (by assumption) ?_
        rotate_left 1
        · intro wz hSw
          have s0 := hSw
          first | (go_simp; done) | (go_simp; with_reducible rfl)
        simp only [List.set_cons_zero, List.set_cons_succ]
        refine take_at (i := 2) (n := 24) (v := ?_) rfl rfl (by kernel_rfl) (by kernel_rfl) (by kernel_rfl) (fun _ _ _ h => h) (Or.inl ⟨by rfl, ?_⟩) (by assumption) ?_
        rotate_left 1
        · intro wz hSw
          have s0 := hSw
          first | (go_simp; done) | (go_simp; with_reducible rfl)
        simp only [List.set_cons_zero, List.set_cons_succ]
        refine take_at (i := 3) (n := 25) (v := ?_) rfl rfl (by kernel_rfl) (by kernel_rfl) (by kernel_rfl) (fun _ _ _ h => h) (Or.inl ⟨by rfl, ?_⟩) (by assumption) ?_
        rotate_left 1
        · intro wz hSw
          have s0 := hSw
          first | (go_simp; done) | (go_simp; with_reducible rfl)
        simp only [List.set_cons_zero, List.set_cons_succ]
        refine take_at (i := 4) (n := 26) (v := undef) rfl rfl (by kernel_rfl) (by kernel_rfl) (by kernel_rfl) (fun _ _ _ h => h) (Or.inr ⟨by rfl, rfl⟩) (by assumption) ?_
        simp only [List.set_cons_zero, List.set_cons_succ]
        refine take_at (i := 5) (n := 27) (v := undef) rfl rfl (by kernel_rfl) (by kernel_rfl) (by kernel_rfl) (fun _ _ _ h => h) (Or.inr ⟨by rfl, rfl⟩) (by assumption) ?_
        simp only [List.set_cons_zero, List.set_cons_succ]
        refine take_at (i := 6) (n := 28) (v := undef) rfl rfl (by kernel_rfl) (by kernel_rfl) (by kernel_rfl) (fun _ _ _ h => h) (Or.inr ⟨by rfl, rfl⟩) (by assumption) ?_
        simp only [List.set_cons_zero, List.set_cons_succ]
        refine take_at (i := 7) (n := 29) (v := undef) rfl rfl (by kernel_rfl) (by kernel_rfl) (by kernel_rfl) (fun _ _ _ h => h) (Or.inr ⟨by rfl, rfl⟩) (by assumption) ?_
        simp only [List.set_cons_zero, List.set_cons_succ]
        refine take_at (i := 8) (n := 30) (v := undef) rfl rfl (by kernel_rfl) (by kernel_rfl) (by kernel_rfl) (fun _ _ _ h => h) (Or.inr ⟨by rfl, rfl⟩) (by assumption) ?_
        simp only [List.set_cons_zero, List.set_cons_succ]
        refine take_at (i := 9) (n := 31) (v := undef) rfl rfl (by kernel_rfl) (by kernel_rfl) (by kernel_rfl) (fun _ _ _ h => h) (Or.inr ⟨by rfl, rfl⟩) (by assumption) ?_
        simp only [List.set_cons_zero, List.set_cons_succ]
        refine take_at (i := 10) (n := 32) (v := undef) rfl rfl (by kernel_rfl) (by kernel_rfl) (by kernel_rfl) (fun _ _ _ h => h) (Or.inr ⟨by rfl, rfl⟩) (by assumption) ?_
        simp only [List.set_cons_zero, List.set_cons_succ]
        refine take_at (i := 11) (n := 33) (v := undef) rfl rfl (by kernel_rfl) (by kernel_rfl) (by kernel_rfl) (fun _ _ _ h => h) (Or.inr ⟨by rfl, rfl⟩) (by assumption) ?_
        simp only [List.set_cons_zero, List.set_cons_succ]
        refine take_at (i := 12) (n := 34) (v := ?_) rfl rfl (by kernel_rfl) (by kernel_rfl) (by kernel_rfl) (fun _ _ _ h => h) (Or.inl ⟨by rfl, ?_⟩) (by assumption) ?_
        rotate_left 1
        · intro wz hSw
          have s0 := hSw
          first | (go_simp; done) | (go_simp; with_reducible rfl)
        simp only [List.set_cons_zero, List.set_cons_succ]
        refine wpAnyH_done (by kernel_rfl) ?_ _
        refine NoPanic.normal ?_
        clear hHeld
        go_wp2_with fail
        exact ⟨⟨k + 1, s, by omega, rfl, by simp, (below_seq HB.out (below_new _ _)).drew, by omega, HE⟩, by simp [intOf]; omega⟩
      have n1b : ((k : Int) != (i : Int)) = true := by simp; omega
      have n1c : ((k : Int) == (i : Int)) = false := beq_eq_false_iff_ne.2 (by omega)
      have n1d : decide ((k : Int) = (i : Int)) = false := decide_eq_false (by omega)
      have n1e : ¬ (k : Int) = (i : Int) := by omega
      by_cases n2 : ip ≤ xp
      · have n2b : decide (ip ≤ xp) = true := decide_eq_true n2
        rw [if_pos (by rw [hap]; simp [n1, n2]), sumO] at hq
        have HE : Hid (s + up1 z ⟨xn, xc, xt, xd, xj, xo, xp⟩ + sumO z (othF (aheadP l i) i (l.drop (k + 1)) (k + 1)) = tot) := by show _ = _; omega
        rw [hup] at hu HE
        have r1 : IntKind.i64.wrap (z + xj) = z + xj := by rw [IntKind.wrap_i64]; omega
        obtain ⟨pr, hpr⟩ : ∃ pr, (z + xj + xt - 1) / xt = pr := ⟨_, rfl⟩
        rw [hpr] at hu HE
        obtain ⟨pd, hpd⟩ : ∃ pd, pr * xc = pd := ⟨_, rfl⟩
        rw [hpd] at hu HE
        have r3 : IntKind.i64.wrap (pr * xc) = pd := by rw [hpd, IntKind.wrap_i64]; omega
        have r4 : IntKind.i64.wrap (s + pd) = s + pd := by rw [IntKind.wrap_i64]; omega
        clear hq hap hup hpd c6
        go_wp2_with fail
        refine wp_region_noPanic ?_
        refine wp_region_held_drew (S := fun w' => w'.cell? ⟨wr.heap.size, 6, none⟩ = some (.int .i64 xp) ∧ w'.cell? ⟨b, o + i * 7 + 6, none⟩ = some (.int .i64 ip)) (by kernel_rfl) ⟨by go_simp, by go_simp⟩ (fun hHeld => ?_)
        refine take_at (i := 0) (n := 22) (v := ?_) rfl rfl (by kernel_rfl) (by kernel_rfl) (by kernel_rfl) (fun _ _ _ h => h) (Or.inl ⟨by rfl, ?_⟩) (by assumption) ?_
        rotate_left 1
        · intro wz hSw
          obtain ⟨s0, s1⟩ := hSw
          first | (go_simp; done) | (go_simp; with_reducible rfl)
        simp only [List.set_cons_zero, List.set_cons_succ]
        refine take_at (i := 1) (n := 23) (v := ?_) rfl rfl (by kernel_rfl) (by kernel_rfl) (by kernel_rfl) (fun _ _ _ h => h) (Or.inl ⟨by rfl, ?_⟩) (by assumption) ?_
        rotate_left 1
        · intro wz hSw
          obtain ⟨s0, s1⟩ := hSw
          first | (go_simp; done) | (go_simp; with_reducible rfl)
        simp only [List.set_cons_zero, List.set_cons_succ]
        refine take_at (i := 2) (n := 24) (v := ?_) rfl rfl (by kernel_rfl) (by kernel_rfl) (by kernel_rfl) (fun _ _ _ h => h) (Or.inl ⟨by rfl, ?_⟩) (by assumption) ?_
        rotate_left 1
        · intro wz hSw
          obtain ⟨s0, s1⟩ := hSw
          first | (go_simp; done) | (go_simp; with_reducible rfl)
        simp only [List.set_cons_zero, List.set_cons_succ]
        refine take_at (i := 3) (n := 25) (v := ?_) rfl rfl (by kernel_rfl) (by kernel_rfl) (by kernel_rfl) (fun _ _ _ h => h) (Or.inl ⟨by rfl, ?_⟩) (by assumption) ?_
        rotate_left 1
        · intro wz hSw
          obtain ⟨s0, s1⟩ := hSw
          first | (go_simp; done) | (go_simp; with_reducible rfl)
        simp only [List.set_cons_zero, List.set_cons_succ]
        refine take_at (i := 4) (n := 26) (v := ?_) rfl rfl (by kernel_rfl) (by kernel_rfl) (by kernel_rfl) (fun _ _ _ h => h) (Or.inl ⟨by rfl, ?_⟩) (by assumption) ?_
        rotate_left 1
        · intro wz hSw
          obtain ⟨s0, s1⟩ := hSw
          first | (go_simp; done) | (go_simp; with_reducible rfl)
        simp only [List.set_cons_zero, List.set_cons_succ]
        refine take_at (i := 5) (n := 27) (v := ?_) rfl rfl (by kernel_rfl) (by kernel_rfl) (by kernel_rfl) (fun _ _ _ h => h) (Or.inl ⟨by rfl, ?_⟩) (by assumption) ?_
        rotate_left 1
        · intro wz hSw
          obtain ⟨s0, s1⟩ := hSw
          first | (go_simp; done) | (go_simp; with_reducible rfl)
        simp only [List.set_cons_zero, List.set_cons_succ]
        refine take_at (i := 6) (n := 28) (v := ?_) rfl rfl (by kernel_rfl) (by kernel_rfl) (by kernel_rfl) (fun _ _ _ h => h) (Or.inl ⟨by rfl, ?_⟩) (by assumption) ?_
        rotate_left 1
        · intro wz hSw
          obtain ⟨s0, s1⟩ := hSw
          first | (go_simp; done) | (go_simp; with_reducible rfl)
        simp only [List.set_cons_zero, List.set_cons_succ]
        refine take_at (i := 7) (n := 29) (v := ?_) rfl rfl (by kernel_rfl) (by kernel_rfl) (by kernel_rfl) (fun _ _ _ h => h) (Or.inl ⟨by rfl, ?_⟩) (by assumption) ?_
        rotate_left 1
        · intro wz hSw
          obtain ⟨s0, s1⟩ := hSw
          first | (go_simp; done) | (go_simp; with_reducible rfl)
        simp only [List.set_cons_zero, List.set_cons_succ]
        refine take_at (i := 8) (n := 30) (v := ?_) rfl rfl (by kernel_rfl) (by kernel_rfl) (by kernel_rfl) (fun _ _ _ h => h) (Or.inl ⟨by rfl, ?_⟩) (by assumption) ?_
        rotate_left 1
        · intro wz hSw
          obtain ⟨s0, s1⟩ := hSw
          first | (go_simp; done) | (go_simp; with_reducible rfl)
        simp only [List.set_cons_zero, List.set_cons_succ]
        refine take_at (i := 9) (n := 31) (v := ?_) rfl rfl (by kernel_rfl) (by kernel_rfl) (by kernel_rfl) (fun _ _ _ h => h) (Or.inl ⟨by rfl, ?_⟩) (by assumption) ?_
        rotate_left 1
        · intro wz hSw
          obtain ⟨s0, s1⟩ := hSw
          first | (go_simp; done) | (go_simp; with_reducible rfl)
        simp only [List.set_cons_zero, List.set_cons_succ]
        refine take_at (i := 10) (n := 32) (v := ?_) rfl rfl (by kernel_rfl) (by kernel_rfl) (by kernel_rfl) (fun _ _ _ h => h) (Or.inl ⟨by rfl, ?_⟩) (by assumption) ?_
        rotate_left 1
        · intro wz hSw
          obtain ⟨s0, s1⟩ := hSw
          first | (go_simp; done) | (go_simp; with_reducible rfl)
        simp only [List.set_cons_zero, List.set_cons_succ]
        refine take_at (i := 11) (n := 33) (v := ?_) rfl rfl (by kernel_rfl) (by kernel_rfl) (by kernel_rfl) (fun _ _ _ h => h) (Or.inl ⟨by rfl, ?_⟩) (by assumption) ?_
        rotate_left 1
        · intro wz hSw
          obtain ⟨s0, s1⟩ := hSw
          first | (go_simp; done) | (go_simp; with_reducible rfl)
        simp only [List.set_cons_zero, List.set_cons_succ]
        refine take_at (i := 12) (n := 34) (v := ?_) rfl rfl (by kernel_rfl) (by kernel_rfl) (by kernel_rfl) (fun _ _ _ h => h) (Or.inl ⟨by rfl, ?_⟩) (by assumption) ?_
        rotate_left 1
        · intro wz hSw
          obtain ⟨s0, s1⟩ := hSw
          first | (go_simp; done) | (go_simp; with_reducible rfl)
        simp only [List.set_cons_zero, List.set_cons_succ]
        refine wpAnyH_done (by kernel_rfl) ?_ _
        refine NoPanic.normal ?_
        clear hHeld
        go_wp2_with fail
        refine wp_region_noPanic ?_
        refine wp_region_held_drew (S := fun w' => w'.cell? ⟨wr.heap.size, 1, none⟩ = some (.int .i64 xc) ∧ w'.cell? ⟨wr.heap.size, 2, none⟩ = some (.int .i64 xt) ∧ w'.cell? ⟨wr.heap.size, 4, none⟩ = some (.int .i64 xj)) (by kernel_rfl) ⟨by go_simp, by go_simp, by go_simp⟩ (fun hHeld => ?_)
        refine take_at (i := 0) (n := 35) (v := ?_) rfl rfl (by kernel_rfl) (by kernel_rfl) (by kernel_rfl) (fun _ _ _ h => h) (Or.inl ⟨by rfl, ?_⟩) (by assumption) ?_
        rotate_left 1
        · intro wz hSw
          obtain ⟨s0, s1, s2⟩ := hSw
          first | (go_simp; done) | (go_simp; with_reducible rfl)
        simp only [List.set_cons_zero, List.set_cons_succ]
        refine take_at (i := 1) (n := 36) (v := ?_) rfl rfl (by kernel_rfl) (by kernel_rfl) (by kernel_rfl) (fun _ _ _ h => h) (Or.inl ⟨by rfl, ?_⟩) (by assumption) ?_
        rotate_left 1
        · intro wz hSw
          obtain ⟨s0, s1, s2⟩ := hSw
          first | (go_simp; done) | (go_simp; with_reducible rfl)
        simp only [List.set_cons_zero, List.set_cons_succ]
        refine take_at (i := 2) (n := 37) (v := ?_) rfl rfl (by kernel_rfl) (by kernel_rfl) (by kernel_rfl) (fun _ _ _ h => h) (Or.inl ⟨by rfl, ?_⟩) (by assumption) ?_
        rotate_left 1
        · intro wz hSw
          obtain ⟨s0, s1, s2⟩ := hSw
          first | (go_simp; done) | (go_simp; with_reducible rfl)
        simp only [List.set_cons_zero, List.set_cons_succ]
        refine take_at (i := 3) (n := 38) (v := ?_) rfl rfl (by kernel_rfl) (by kernel_rfl) (by kernel_rfl) (fun _ _ _ h => h) (Or.inl ⟨by rfl, ?_⟩) (by assumption) ?_
        rotate_left 1
        · intro wz hSw
          obtain ⟨s0, s1, s2⟩ := hSw
          first | (go_simp; done) | (go_simp; with_reducible rfl)
        simp only [List.set_cons_zero, List.set_cons_succ]
        refine take_at (i := 4) (n := 39) (v := ?_) rfl rfl (by kernel_rfl) (by kernel_rfl) (by kernel_rfl) (fun _ _ _ h => h) (Or.inl ⟨by rfl, ?_⟩) (by assumption) ?_
        rotate_left 1
        · intro wz hSw
          obtain ⟨s0, s1, s2⟩ := hSw
          first | (go_simp; done) | (go_simp; with_reducible rfl)
        simp only [List.set_cons_zero, List.set_cons_succ]
        refine take_at (i := 5) (n := 40) (v := ?_) rfl rfl (by kernel_rfl) (by kernel_rfl) (by kernel_rfl) (fun _ _ _ h => h) (Or.inl ⟨by rfl, ?_⟩) (by assumption) ?_
        rotate_left 1
        · intro wz hSw
          obtain ⟨s0, s1, s2⟩ := hSw
          first | (go_simp; done) | (go_simp; with_reducible rfl)
        simp only [List.set_cons_zero, List.set_cons_succ]
        refine take_at (i := 6) (n := 41) (v := ?_) rfl rfl (by kernel_rfl) (by kernel_rfl) (by kernel_rfl) (fun _ _ _ h => h) (Or.inl ⟨by rfl, ?_⟩) (by assumption) ?_
        rotate_left 1
        · intro wz hSw
          obtain ⟨s0, s1, s2⟩ := hSw
          first | (go_simp; done) | (go_simp; with_reducible rfl)
        simp only [List.set_cons_zero, List.set_cons_succ]
        refine take_at (i := 8) (n := 43) (v := ?_) rfl rfl (by kernel_rfl) (by kernel_rfl) (by kernel_rfl) (fun _ _ _ h => h) (Or.inl ⟨by rfl, ?_⟩) (by assumption) ?_
        rotate_left 1
        · intro wz hSw
          obtain ⟨s0, s1, s2⟩ := hSw
          first | (go_simp; done) | (go_simp; with_reducible rfl)
        simp only [List.set_cons_zero, List.set_cons_succ]
        refine take_at (i := 9) (n := 44) (v := ?_) rfl rfl (by kernel_rfl) (by kernel_rfl) (by kernel_rfl) (fun _ _ _ h => h) (Or.inl ⟨by rfl, ?_⟩) (by assumption) ?_
        rotate_left 1
        · intro wz hSw
          obtain ⟨s0, s1, s2⟩ := hSw
          first | (go_simp; done) | (go_simp; with_reducible rfl)
        simp only [List.set_cons_zero, List.set_cons_succ]
        refine wpAnyH_ready (rs := [7]) (by kernel_rfl) (by simp) ?_
        refine AllReadyH.cons rfl (fun K hK => ?_) AllReadyH.nil
        go_simp
        go_wp2_with (go_at_call 44; refine (roundUp_any _ _ _ (by omega) (by omega)).mono ?_; rintro r w9 ⟨rfl, hw9⟩; have hw8 := hw9.symm; subst hw8; clear hw9; rw [hpr])
        refine hK.out _ _ ⟨by go_simp, by go_simp, by go_simp⟩ (fun hHeld => ?_)
        clear hK K
        try simp only [List.set_cons_zero, List.set_cons_succ]
        refine take_at (i := 10) (n := 45) (v := ?_) rfl rfl (by kernel_rfl) (by kernel_rfl) (by kernel_rfl) (fun _ _ _ h => h) (Or.inl ⟨by rfl, ?_⟩) (by assumption) ?_
        rotate_left 1
        · intro wz hSw
          obtain ⟨s0, s1, s2⟩ := hSw
          first | (go_simp; done) | (go_simp; with_reducible rfl)
        simp only [List.set_cons_zero, List.set_cons_succ]
        refine take_at (i := 11) (n := 46) (v := ?_) rfl rfl (by kernel_rfl) (by kernel_rfl) (by kernel_rfl) (fun _ _ _ h => h) (Or.inl ⟨by rfl, ?_⟩) (by assumption) ?_
        rotate_left 1
        · intro wz hSw
          obtain ⟨s0, s1, s2⟩ := hSw
          first | (go_simp; done) | (go_simp; with_reducible rfl)
        simp only [List.set_cons_zero, List.set_cons_succ]
        refine take_at (i := 12) (n := 7) (v := ?_) rfl rfl (by kernel_rfl) (by kernel_rfl) (by kernel_rfl) (fun _ _ _ h => h) (Or.inl ⟨by rfl, ?_⟩) (by assumption) ?_
        rotate_left 1
        · intro wz hSw
          obtain ⟨s0, s1, s2⟩ := hSw
          first | (go_simp; done) | (go_simp; with_reducible rfl)
        simp only [List.set_cons_zero, List.set_cons_succ]
        refine wpAnyH_done (by kernel_rfl) ?_ _
        refine NoPanic.normal ?_
        clear hHeld
        go_wp2_with fail
        exact ⟨⟨k + 1, s + pd, by omega, rfl, by simp, (below_seq HB.out (below_new _ _)).drew.drew, by omega, HE⟩, by simp [intOf]; omega⟩
      · have n2b : decide (ip ≤ xp) = false := decide_eq_false n2
        rw [if_neg (by rw [hap]; simp [n2])] at hq
        have HE : Hid (s + sumO z (othF (aheadP l i) i (l.drop (k + 1)) (k + 1)) = tot) := hq
        clear hq hap hup hu c6
        go_wp2_with fail
        refine wp_region_noPanic ?_
        refine wp_region_held_drew (S := fun w' => w'.cell? ⟨wr.heap.size, 6, none⟩ = some (.int .i64 xp) ∧ w'.cell? ⟨b, o + i * 7 + 6, none⟩ = some (.int .i64 ip)) (by kernel_rfl) ⟨by go_simp, by go_simp⟩ (fun hHeld => ?_)
        refine take_at (i := 0) (n := 22) (v := ?_) rfl rfl (by kernel_rfl) (by kernel_rfl) (by kernel_rfl) (fun _ _ _ h => h) (Or.inl ⟨by rfl, ?_⟩) (by assumption) ?_
        rotate_left 1
        · intro wz hSw
          obtain ⟨s0, s1⟩ := hSw
          first | (go_simp; done) | (go_simp; with_reducible rfl)
        simp only [List.set_cons_zero, List.set_cons_succ]
        refine take_at (i := 1) (n := 23) (v := ?_) rfl rfl (by kernel_rfl) (by kernel_rfl) (by kernel_rfl) (fun _ _ _ h => h) (Or.inl ⟨by rfl, ?_⟩) (by assumption) ?_
        rotate_left 1
        · intro wz hSw
          obtain ⟨s0, s1⟩ := hSw
          first | (go_simp; done) | (go_simp; with_reducible rfl)
        simp only [List.set_cons_zero, List.set_cons_succ]
        refine take_at (i := 2) (n := 24) (v := ?_) rfl rfl (by kernel_rfl) (by kernel_rfl) (by kernel_rfl) (fun _ _ _ h => h) (Or.inl ⟨by rfl, ?_⟩) (by assumption) ?_
        rotate_left 1
        · intro wz hSw
          obtain ⟨s0, s1⟩ := hSw
          first | (go_simp; done) | (go_simp; with_reducible rfl)
        simp only [List.set_cons_zero, List.set_cons_succ]
        refine take_at (i := 3) (n := 25) (v := ?_) rfl rfl (by kernel_rfl) (by kernel_rfl) (by kernel_rfl) (fun _ _ _ h => h) (Or.inl ⟨by rfl, ?_⟩) (by assumption) ?_
        rotate_left 1
        · intro wz hSw
          obtain ⟨s0, s1⟩ := hSw
          first | (go_simp; done) | (go_simp; with_reducible rfl)
        simp only [List.set_cons_zero, List.set_cons_succ]
        refine take_at (i := 4) (n := 26) (v := ?_) rfl rfl (by kernel_rfl) (by kernel_rfl) (by kernel_rfl) (fun _ _ _ h => h) (Or.inl ⟨by rfl, ?_⟩) (by assumption) ?_
        rotate_left 1
        · intro wz hSw
          obtain ⟨s0, s1⟩ := hSw
          first | (go_simp; done) | (go_simp; with_reducible rfl)
        simp only [List.set_cons_zero, List.set_cons_succ]
        refine take_at (i := 5) (n := 27) (v := ?_) rfl rfl (by kernel_rfl) (by kernel_rfl) (by kernel_rfl) (fun _ _ _ h => h) (Or.inl ⟨by rfl, ?_⟩) (by assumption) ?_
        rotate_left 1
        · intro wz hSw
          obtain ⟨s0, s1⟩ := hSw
          first | (go_simp; done) | (go_simp; with_reducible rfl)
        simp only [List.set_cons_zero, List.set_cons_succ]
        refine take_at (i := 6) (n := 28) (v := ?_) rfl rfl (by kernel_rfl) (by kernel_rfl) (by kernel_rfl) (fun _ _ _ h => h) (Or.inl ⟨by rfl, ?_⟩) (by assumption) ?_
        rotate_left 1
        · intro wz hSw
          obtain ⟨s0, s1⟩ := hSw
          first | (go_simp; done) | (go_simp; with_reducible rfl)
        simp only [List.set_cons_zero, List.set_cons_succ]
        refine take_at (i := 7) (n := 29) (v := ?_) rfl rfl (by kernel_rfl) (by kernel_rfl) (by kernel_rfl) (fun _ _ _ h => h) (Or.inl ⟨by rfl, ?_⟩) (by assumption) ?_
        rotate_left 1
        · intro wz hSw
          obtain ⟨s0, s1⟩ := hSw
          first | (go_simp; done) | (go_simp; with_reducible rfl)
        simp only [List.set_cons_zero, List.set_cons_succ]
        refine take_at (i := 8) (n := 30) (v := ?_) rfl rfl (by kernel_rfl) (by kernel_rfl) (by kernel_rfl) (fun _ _ _ h => h) (Or.inl ⟨by rfl, ?_⟩) (by assumption) ?_
        rotate_left 1
        · intro wz hSw
          obtain ⟨s0, s1⟩ := hSw
          first | (go_simp; done) | (go_simp; with_reducible rfl)
        simp only [List.set_cons_zero, List.set_cons_succ]
        refine take_at (i := 9) (n := 31) (v := ?_) rfl rfl (by kernel_rfl) (by kernel_rfl) (by kernel_rfl) (fun _ _ _ h => h) (Or.inl ⟨by rfl, ?_⟩) (by assumption) ?_
        rotate_left 1
        · intro wz hSw
          obtain ⟨s0, s1⟩ := hSw
          first | (go_simp; done) | (go_simp; with_reducible rfl)
        simp only [List.set_cons_zero, List.set_cons_succ]
        refine take_at (i := 10) (n := 32) (v := ?_) rfl rfl (by kernel_rfl) (by kernel_rfl) (by kernel_rfl) (fun _ _ _ h => h) (Or.inl ⟨by rfl, ?_⟩) (by assumption) ?_
        rotate_left 1
        · intro wz hSw
          obtain ⟨s0, s1⟩ := hSw
          first | (go_simp; done) | (go_simp; with_reducible rfl)
        simp only [List.set_cons_zero, List.set_cons_succ]
        refine take_at (i := 11) (n := 33) (v := ?_) rfl rfl (by kernel_rfl) (by kernel_rfl) (by kernel_rfl) (fun _ _ _ h => h) (Or.inl ⟨by rfl, ?_⟩) (by assumption) ?_
        rotate_left 1
        · intro wz hSw
          obtain ⟨s0, s1⟩ := hSw
          first | (go_simp; done) | (go_simp; with_reducible rfl)
        simp only [List.set_cons_zero, List.set_cons_succ]
        refine take_at (i := 12) (n := 34) (v := ?_) rfl rfl (by kernel_rfl) (by kernel_rfl) (by kernel_rfl) (fun _ _ _ h => h) (Or.inl ⟨by rfl, ?_⟩) (by assumption) ?_
        rotate_left 1
        · intro wz hSw
          obtain ⟨s0, s1⟩ := hSw
          first | (go_simp; done) | (go_simp; with_reducible rfl)
        simp only [List.set_cons_zero, List.set_cons_succ]
        refine wpAnyH_done (by kernel_rfl) ?_ _
        refine NoPanic.normal ?_
        clear hHeld
        go_wp2_with fail
        exact ⟨⟨k + 1, s, by omega, rfl, by simp, (below_seq HB.out (below_new _ _)).drew, by omega, HE⟩, by simp [intOf]; omega⟩
    · have hke : k = l.length := by omega
      subst hke
      have hq := HQ.out
      rw [List.drop_length, othF, sumO] at hq
      have HE : Hid (s = tot) := by show _ = _; omega
      clear hb HQ hq
      go_wp2_with fail
      go_ret
      have e := HE.out
      subst e
      exact ⟨rfl, HB.out⟩
end Go.Proofs.Ytkafihaajpifoai
namespace Go.Proofs.Ytkafihaajpifoai
open Go.ChangeShapes Go.WideShapes Go.ChangeAt Go.RowKit

/-- What Within tells where it says OK. -/
def WiOk (l : List Ta) (i : Nat) (n : Int) (wl : List Wi) (v : Int) : Prop := (frmF n wl).1 = 0 ∧ (chkX l).1 = 0 ∧ ∃ k : Nat, v = (k : Int) + (Tk l i).j ∧ 1 ≤ k ∧ (k : Int) + (Tk l i).j ≤ (Tk l i).d ∧ askF (Tk l i).c (othF (aheadP l i) i l 0) (k : Int) ≤ leastF n wl k

def WithinPost (w : World) (l : List Ta) (i : Nat) (n : Int) (wl : List Wi) (r : Ending) (w' : World) : Prop := ∃ v a b, r = .returned (.tuple #[.int .i64 v, .agg #[.int .i64 a, .int .i64 b]]) ∧ Below w.heap.size w w' ∧ (a = 0 → WiOk l i n wl v)

theorem WithinPost.bad {w w' : World} {l : List Ta} {i : Nat} {n : Int} {wl : List Wi} {v a b : Int} (ha : a ≠ 0) (hb : Below w.heap.size w w') : WithinPost w l i n wl (.returned (.tuple #[.int .i64 v, .agg #[.int .i64 a, .int .i64 b]])) w' := ⟨v, a, b, rfl, hb, fun e => absurd e ha⟩

theorem leastF_in {n : Nat} {wl : List Wi} {k : Nat} : 0 ≤ leastF n wl k ∧ leastF n wl k ≤ k := by
  obtain ⟨⟨h1, h2⟩, h3⟩ := foldl_min (fun x : Wi => sup n wl (x.at_ + x.ln).toNat k) wl (sup n wl 0 k)
  have e : leastF n wl k = wl.foldl (fun m x => min m (sup n wl (x.at_ + x.ln).toNat k)) (sup n wl 0 k) := rfl
  rw [e]
  have h0 := sup_le n wl 0 k
  refine ⟨?_, by omega⟩
  rcases h3 with h3 | ⟨x, hx, h3⟩
  · omega
  · have := sup_le n wl (x.at_ + x.ln).toNat k
    omega

set_option maxRecDepth 20000 in
set_option maxHeartbeats 4000000 in
theorem Within_any (w : World) (l : List Ta) (i : Nat) (n : Int) (wl : List Wi) (v vw : Value) (hl : l.length ≤ 1000000) (hi : i < l.length) (hv : RowSl Ta.vals w l v) (hvw : RowSl Wi.vals w wl vw) :
    Calls Try.prog 15 #[v, .int .i64 (i : Int), .int .i64 n, vw] w (WithinPost w l i n wl) := by
  obtain ⟨ad, c, rfl⟩ := hv.len
  obtain ⟨ad1, c1, rfl⟩ := hvw.len
  have HV : Hid (RowSl Ta.vals w l (.slice ad l.length c) ∧ RowSl Wi.vals w wl (.slice ad1 wl.length c1)) := ⟨hv, hvw⟩
  have H0 : Hid (FB w (w.alloc (.cells #[.int .i64 0, .int .i64 0] 29)) w.heap.size) := FB.start w
  have HR := Response_any (w.alloc (.cells #[.int .i64 0, .int .i64 0] 29)) l _ (i : Int) 0 hl (hv.below (below_new _ _))
  obtain ⟨z0, z1, z2, hz⟩ : ∃ z0 z1 z2, responseF l (i : Int) 0 = (z0, z1, z2) := ⟨_, _, _, rfl⟩
  rw [hz] at HR
  dsimp only at HR
  clear hv hvw
  by_cases h0 : z1 = 0
  rotate_left 1
  · have hz1 : (z1 != 0) = true := by simpa using h0
    clear hz
    go_enter Try.func15, Try.ntmps15
    go_upto_region 3 with (go_at_call 36; refine HR.mono ?_; rintro r w1 ⟨rfl, hb1⟩; have H1 : Hid (FB w (w1.alloc (.cells #[.int .i64 z1, .int .i64 z2] 29)) w.heap.size) := (H0.out.grow hb1).grow (below_new _ _); have hl1 : w.heap.size < w1.heap.size := (H0.out.grow hb1).lt; clear hb1 HR)
    obtain ⟨fs, -, fl⟩ := cells_of (l := [_, _]) (heap_alloc_new w1 (.cells #[.int .i64 z1, .int .i64 z2] 29))
    have g0 := fs 0 _ rfl
    have g1 := fs 1 _ rfl
    clear fs
    generalize w1.alloc (.cells #[.int .i64 z1, .int .i64 z2] 29) = w2 at *
    obtain ⟨r10, r11, y10, y11, rl⟩ := H1.out.res2
    go_region
    all_goals go_wp2_with fail
    all_goals
      refine bodyPost_ret (Within_ends (set_two H1.out.res) rfl rfl) rfl ?_
      exact WithinPost.bad h0 (H1.out.set _ _).drew
  subst h0
  have hX : (chkX l).1 = 0 := by
    apply Classical.byContradiction
    intro hc
    unfold responseF at hz
    rw [if_pos hc] at hz
    exact hc (congrArg (fun q : Int × Int × Int => q.2.1) hz)
  clear hz
  obtain ⟨-, hDT, -, h8, hst, -⟩ := chkX_ok hX
  have HX : Hid ((chkX l).1 = 0 ∧ (∀ x ∈ l, stands x = true) ∧ l.length ≤ 8) := ⟨hX, hst, h8⟩
  have HFr : Hid (∀ W, Below w.heap.size w W → Calls Try.prog 27 #[.int .i64 n, .slice ad1 wl.length c1] W fun r w' => r = .returned (.agg #[.int .i64 (frmF n wl).1, .int .i64 (frmF n wl).2]) ∧ Below W.heap.size W w') := fun W hW => Frame_any W n wl _ (HV.out.2.below hW)
  obtain ⟨y1, hy1⟩ : ∃ y1, (frmF n wl).1 = y1 := ⟨_, rfl⟩
  obtain ⟨y2, hy2⟩ : ∃ y2, (frmF n wl).2 = y2 := ⟨_, rfl⟩
  rw [hy1, hy2] at HFr
  by_cases h1 : y1 = 0
  rotate_left 1
  · have hz1 : (y1 != 0) = true := by simpa using h1
    clear hy1 hy2
    go_enter Try.func15, Try.ntmps15
    go_upto_region 6 with (first
      | (go_at_call 27; refine (HFr.out _ H1.out.bel).mono ?_; rintro r w2 ⟨rfl, hb2⟩; have H2 : Hid (FB w (w2.alloc (.cells #[.int .i64 y1, .int .i64 y2] 29)) w.heap.size) := (H1.out.grow hb2).grow (below_new _ _); have hl2 : w.heap.size < w2.heap.size := (H1.out.grow hb2).lt; clear hb2)
      | (go_at_call 36; refine HR.mono ?_; rintro r w1 ⟨rfl, hb1⟩; have H1 : Hid (FB w (w1.alloc (.cells #[.int .i64 0, .int .i64 z2] 29)) w.heap.size) := (H0.out.grow hb1).grow (below_new _ _); clear hb1 HR))
    obtain ⟨fs, -, fl⟩ := cells_of (l := [_, _]) (heap_alloc_new w2 (.cells #[.int .i64 y1, .int .i64 y2] 29))
    have g0 := fs 0 _ rfl
    have g1 := fs 1 _ rfl
    clear fs
    generalize w2.alloc (.cells #[.int .i64 y1, .int .i64 y2] 29) = w3 at *
    obtain ⟨r10, r11, y10, y11, rl⟩ := H2.out.res2
    go_region
    all_goals go_wp2_with fail
    all_goals
      refine bodyPost_ret (Within_ends (set_two H2.out.res) rfl rfl) rfl ?_
      exact WithinPost.bad h1 (H2.out.set _ _).drew
  subst h1
  obtain ⟨hn1, h20, hsrt, -⟩ := frmF_good (n := n) (l := wl) (z := (frmF n wl).2) (by rw [← hy1])
  obtain ⟨nn, hnn⟩ : ∃ nn : Nat, n = (nn : Int) := ⟨n.toNat, by omega⟩
  subst hnn
  have HFm : Hid ((frmF (nn : Int) wl).1 = 0 ∧ Srt (nn : Int) 0 wl ∧ 1 ≤ nn) := ⟨hy1, hsrt, by omega⟩
  have HL : Hid (∀ (W : World) (k : Nat), k ≤ 20000 → Below w.heap.size w W → Calls Try.prog 38 #[.agg #[.int .i64 (nn : Int), .slice ad1 wl.length c1], .int .i64 (k : Int)] W fun r w' => r = .returned (.int .i64 (leastF nn wl k)) ∧ Below W.heap.size W w') := fun W k hk hW => least_any W nn k wl ad1 c1 (by omega) h20 hsrt hk (HV.out.2.below hW)
  have HA : Hid (∀ (W : World) (z : Int), 0 ≤ z ∧ z ≤ 20000 → Below w.heap.size w W → Calls Try.prog 37 #[.slice ad l.length c, .int .i64 (i : Int), .int .i64 z] W fun r w' => r = .returned (.int .i64 (askF (Tk l i).c (othF (aheadP l i) i l 0) z)) ∧ Below W.heap.size W w') := fun W z hz' hW => asked_any W l i z _ h8 hi hst hz' (HV.out.1.below hW)
  have hts := stands_t (stands_mem hst hi)
  have hdt := hDT _ (Tk_mem hi)
  have HAb : Hid (∀ z : Int, 0 ≤ z ∧ z ≤ 20000 → 0 ≤ askF (Tk l i).c (othF (aheadP l i) i l 0) z ∧ askF (Tk l i).c (othF (aheadP l i) i l 0) z ≤ 10000 + 8000000000) := fun z hz' => by
    have h9 := sumO_in hz' (othF (aheadP l i) i l 0) (fun x hx => hst x (othF_mem _ _ x hx))
    have h10 := othF_len (A := aheadP l i) (i := i) l 0
    unfold askF
    omega
  obtain ⟨ad', c', he, -, hcap, hrow⟩ := HV.out.1
  cases he
  rcases hrow with h | ⟨b, o, rfl, hrow⟩
  · rw [h] at hi; simp at hi
  obtain ⟨d0, d1, d2, d3, d4, d5, d6⟩ := ta_at hrow (Tk_get hi)
  have HTE : Hid ((Tk l i).c = (Tk l i).c) := rfl
  obtain ⟨xx, hxx⟩ : ∃ xx, Tk l i = xx := ⟨_, rfl⟩
  rw [hxx] at d0 d1 d2 d3 d4 d5 d6 hts hdt
  have HTx : Hid (Tk l i = xx) := hxx
  obtain ⟨xn, xc, xt, xd, xj, xo, xp⟩ := xx
  dsimp only at d0 d1 d2 d3 d4 d5 d6 hts hdt
  have HT : Hid (w.cell? ⟨b, o + i * 7, none⟩ = some (.string xn) ∧ w.cell? ⟨b, o + i * 7 + 1, none⟩ = some (.int .i64 xc) ∧ w.cell? ⟨b, o + i * 7 + 2, none⟩ = some (.int .i64 xt) ∧ w.cell? ⟨b, o + i * 7 + 3, none⟩ = some (.int .i64 xd) ∧ w.cell? ⟨b, o + i * 7 + 4, none⟩ = some (.int .i64 xj) ∧ w.cell? ⟨b, o + i * 7 + 5, none⟩ = some (.int .i64 xo) ∧ w.cell? ⟨b, o + i * 7 + 6, none⟩ = some (.int .i64 xp)) := ⟨d0, d1, d2, d3, d4, d5, d6⟩
  have hii : (i : Int) < (l.length : Int) := by omega
  have hxb : 1 ≤ xc ∧ xc ≤ 10000 ∧ 1 ≤ xd ∧ xd ≤ 10000 ∧ 0 ≤ xj ∧ xj ≤ 10000 := by omega
  clear hrow d0 d1 d2 d3 d4 d5 d6 hts hdt hxx HTE hDT hst hX hn1 h20 hsrt hy1 hy2
  go_enter Try.func15, Try.ntmps15
  go_wp2_with (first
    | (go_at_call 27; refine (HFr.out _ H1.out.bel).mono ?_; rintro r w2 ⟨rfl, hb2⟩; have H2 : Hid (FB w (w2.alloc (.cells #[.int .i64 0, .int .i64 y2] 29)) w.heap.size) := (H1.out.grow hb2).grow (below_new _ _); obtain ⟨d0, d1, d2, d3, d4, d5, d6⟩ := HT.out; have e0 := below_cell (below_seq H1.out.bel hb2) d0; have e1 := below_cell (below_seq H1.out.bel hb2) d1; have e2 := below_cell (below_seq H1.out.bel hb2) d2; have e3 := below_cell (below_seq H1.out.bel hb2) d3; have e4 := below_cell (below_seq H1.out.bel hb2) d4; have e5 := below_cell (below_seq H1.out.bel hb2) d5; have e6 := below_cell (below_seq H1.out.bel hb2) d6; have le : b < w2.heap.size := World.block_lt_of_cell? _ _ e0; clear hb2 d0 d1 d2 d3 d4 d5 d6)
    | (go_at_call 36; refine HR.mono ?_; rintro r w1 ⟨rfl, hb1⟩; have H1 : Hid (FB w (w1.alloc (.cells #[.int .i64 0, .int .i64 z2] 29)) w.heap.size) := (H0.out.grow hb1).grow (below_new _ _); clear hb1 HR))
  go_cut [13, 14] from 13 to 14 (fun x y wc => ∃ gf gt, x = .pointer (some ⟨gf, 0, none⟩) ∧ y = .pointer (some ⟨gt, 0, none⟩) ∧ Hid (FB w wc w.heap.size) ∧ wc.heap[gf]? = some (.cells #[.int .i64 (nn : Int), .slice ad1 wl.length c1] 81 (0, 0)) ∧ wc.heap[gt]? = some (.cells #[.string xn, .int .i64 xc, .int .i64 xt, .int .i64 xd, .int .i64 xj, .int .i64 xo, .int .i64 xp] 67 (0, 0)))
  case first =>
    have le1 : b < w2.heap.size + 1 := by omega
    have le2 : b < w2.heap.size + 1 + 1 := by omega
    have le3 : b < w2.heap.size + 2 := by omega
    have n1 : ¬ b = w2.heap.size := by omega
    have n2 : ¬ b = w2.heap.size + 1 := by omega
    have n3 : ¬ b = w2.heap.size + 1 + 1 := by omega
    go_region
    · go_wp2_with fail
      go_meet
      case rel =>
        obtain ⟨q1, q2⟩ := two_new (w2.alloc (.cells #[.int .i64 0, .int .i64 y2] 29)) (.cells #[.int .i64 (nn : Int), .slice ad1 wl.length c1] 81) (.cells #[.string xn, .int .i64 xc, .int .i64 xt, .int .i64 xd, .int .i64 xj, .int .i64 xo, .int .i64 xp] 67)
        refine ⟨_, _, rfl, rfl, (H2.out.grow ((below_seq (below_new _ _) (below_new _ _)).drew)), ?_, ?_⟩
        · simpa using q1
        · simpa using q2
    · go_wp2_with fail
      go_meet
      case rel =>
        obtain ⟨q1, q2⟩ := two_new (w2.alloc (.cells #[.int .i64 0, .int .i64 y2] 29)) (.cells #[.string xn, .int .i64 xc, .int .i64 xt, .int .i64 xd, .int .i64 xj, .int .i64 xo, .int .i64 xp] 67) (.cells #[.int .i64 (nn : Int), .slice ad1 wl.length c1] 81)
        refine ⟨_, _, rfl, rfl, (H2.out.grow ((below_seq (below_new _ _) (below_new _ _)).drew)), ?_, ?_⟩
        · simpa using q2
        · simpa using q1
  case rest =>
    obtain ⟨gf, gt, rfl, rfl, HC, hf, ht⟩ := hcut
    obtain ⟨df, -, lf⟩ := cells_of (l := [_, _]) hf
    obtain ⟨dt, -, lt⟩ := cells_of (l := [_, _, _, _, _, _, _]) ht
    have f0 := df 0 _ rfl
    have f1 := df 1 _ rfl
    have t1 := dt 1 _ rfl
    have t3 := dt 3 _ rfl
    have t4 := dt 4 _ rfl
    clear df dt hf ht
    have HF : Hid ((wc.cell? ⟨gf, 0, none⟩ = some (.int .i64 (nn : Int)) ∧ wc.cell? ⟨gf, 1, none⟩ = some (.slice ad1 wl.length c1)) ∧ wc.cell? ⟨gt, 3, none⟩ = some (.int .i64 xd) ∧ wc.cell? ⟨gt, 4, none⟩ = some (.int .i64 xj)) := ⟨⟨f0, f1⟩, t3, t4⟩
    go_wp2_with fail
    clear f0 f1 t1 t3 t4
    have qdj : IntKind.i64.wrap (xd - xj) = xd - xj := by rw [IntKind.wrap_i64]; omega
    go_loopw [15] (fun x wr => ∃ k : Nat, x = .int .i64 (k : Int) ∧ 1 ≤ k ∧ k ≤ 9000000000 ∧ Hid (Below wc.heap.size wc wr)) (fun x _ => 20000 - (intOf x).toNat)
    case atStart => exact ⟨xc.toNat, by rw [Int.toNat_of_nonneg (by omega)], by omega, by omega, Below.refl _ _⟩
    case round =>
      obtain ⟨k, rfl, hk1, hk2, HB⟩ := hrel
      have f0 := below_cell HB.out HF.out.1.1
      have f1 := below_cell HB.out HF.out.1.2
      have t3 := below_cell HB.out HF.out.2.1
      have t4 := below_cell HB.out HF.out.2.2
      have lf' : gf < wr.heap.size := World.block_lt_of_cell? _ _ f0
      have lt' : gt < wr.heap.size := World.block_lt_of_cell? _ _ t3
      obtain ⟨r10, r11, z10, z11, rl⟩ := (HC.out.grow HB.out).res2
      by_cases hkd : (k : Int) ≤ xd - xj
      rotate_left 1
      · have hkd' : decide ((k : Int) ≤ xd - xj) = false := decide_eq_false hkd
        go_wp2_with fail
        refine bodyPost_ret (Within_ends (set_two (HC.out.grow HB.out).res) rfl rfl) rfl ?_
        exact WithinPost.bad (by decide) ((HC.out.grow HB.out).set _ _)
      have hkd' : decide ((k : Int) ≤ xd - xj) = true := decide_eq_true hkd
      have hk3 : k ≤ 20000 := by omega
      have HA2 : Hid (∀ W, Below w.heap.size w W → Calls Try.prog 37 #[.slice (some ⟨b, o, none⟩) l.length c, .int .i64 (i : Int), .int .i64 (k : Int)] W fun r w' => r = .returned (.int .i64 (askF (Tk l i).c (othF (aheadP l i) i l 0) (k : Int))) ∧ Below W.heap.size W w') := fun W hW => HA.out W (k : Int) (by omega) hW
      have HL2 : Hid (∀ W, Below w.heap.size w W → Calls Try.prog 38 #[.agg #[.int .i64 (nn : Int), .slice ad1 wl.length c1], .int .i64 (k : Int)] W fun r w' => r = .returned (.int .i64 (leastF nn wl k)) ∧ Below W.heap.size W w') := fun W hW => HL.out W k hk3 hW
      have hab := HAb.out (k : Int) (by omega)
      have hlb := leastF_in (n := nn) (wl := wl) (k := k)
      obtain ⟨av, hav⟩ : ∃ av, askF (Tk l i).c (othF (aheadP l i) i l 0) (k : Int) = av := ⟨_, rfl⟩
      obtain ⟨lv, hlv⟩ : ∃ lv, leastF nn wl k = lv := ⟨_, rfl⟩
      rw [hav] at hab HA2
      rw [hlv] at hlb HL2
      have HAL : Hid (askF (Tk l i).c (othF (aheadP l i) i l 0) (k : Int) = av ∧ leastF nn wl k = lv) := ⟨hav, hlv⟩
      have qs : IntKind.i64.wrap (av - lv) = av - lv := by rw [IntKind.wrap_i64]; omega
      clear hav hlv
      go_wp2_with fail
      go_region_held3 (fun w' => Below wr.heap.size wr w' ∧ w'.cell? ⟨gf, 0, none⟩ = some (.int .i64 (nn : Int)) ∧ w'.cell? ⟨gf, 1, none⟩ = some (.slice ad1 wl.length c1))
        (first | assumption | exact ⟨(Below.refl _ _).drew, by go_simp, by go_simp⟩)
        (first
          | (go_at_call 37; refine (HA2.out _ (below_seq (HC.out.grow HB.out).bel (And.left ‹Below wr.heap.size wr _ ∧ _›))).mono ?_; rintro r wa ⟨rfl, hba⟩; have hSa := keepP hba ‹Below wr.heap.size wr _ ∧ _›; clear hba)
          | (go_at_call 38; refine (HL2.out _ (below_seq (HC.out.grow HB.out).bel (And.left ‹Below wr.heap.size wr _ ∧ _›))).mono ?_; rintro r wl' ⟨rfl, hbl⟩; have hSl := keepP hbl ‹Below wr.heap.size wr _ ∧ _›; clear hbl))
      all_goals
        have hSb := And.left ‹Below wr.heap.size wr _ ∧ _›
        have H9 : Hid (FB w _ w.heap.size) := (HC.out.grow HB.out).grow hSb
        have HSb : Hid (Below wr.heap.size wr _) := hSb
        obtain ⟨r10, r11, z10, z11, rl⟩ := H9.out.res2
        have t4 := below_cell hSb t4
        clear hSb
        by_cases hsh : av - lv ≤ 0
        · have hshd : decide (av - lv ≤ 0) = true := decide_eq_true hsh
          have qr : IntKind.i64.wrap ((k : Int) + xj) = (k : Int) + xj := by rw [IntKind.wrap_i64]; omega
          go_wp2_with fail
          refine bodyPost_ret (Within_ends (set_two H9.out.res) rfl rfl) rfl ?_
          refine ⟨_, _, _, rfl, H9.out.set _ _, fun _ => ⟨HFm.out.1, HX.out.1, k, ?_, hk1, ?_, ?_⟩⟩
          · rw [HTx.out]
          · rw [HTx.out]; show (k : Int) + xj ≤ xd; omega
          · rw [HAL.out.1, HAL.out.2]; omega
        · have hshd : decide (av - lv ≤ 0) = false := decide_eq_false hsh
          obtain ⟨k', hk'⟩ : ∃ k' : Nat, (k : Int) + (av - lv) = (k' : Int) := ⟨((k : Int) + (av - lv)).toNat, by omega⟩
          have hk4 : k < k' ∧ k' ≤ 9000000000 := by omega
          have qr : IntKind.i64.wrap ((k : Int) + (av - lv)) = (k' : Int) := by rw [IntKind.wrap_i64]; omega
          clear hk'
          go_wp2_with fail
          exact ⟨⟨k', rfl, by omega, by omega, below_seq HB.out HSb.out⟩, by simp [intOf]; omega⟩
end Go.Proofs.Ytkafihaajpifoai
