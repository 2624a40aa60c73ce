import Derived.Test.YtekbkcgpjkecbalDoorXD
import Derived.Test.YtekbkcgpjkecbalDoorZA
import Derived.Test.YtekbkcgpjkecbalDoorZD0
namespace Go.Proofs.YtekbkcgpjkecbalDoor
open Go.ChangeShapes Go.WideShapes Go.ChangeAt Go.RowKit

set_option maxRecDepth 20000 in
set_option maxHeartbeats 4000000 in
theorem loss_any (w : World) (l : List Ta) (p sp : Int) (v : Value) (hl : l.length ≤ 8) (hv : RowSl Ta.vals w l v) :
    Calls Tryd.prog 25 #[v, .int .i64 p, .int .i64 sp] w fun r w' => r = .returned (.int .i64 (lossF l p sp)) ∧ Below w.heap.size w w' := by
  obtain ⟨ad, c, rfl, -, hcap, hrow⟩ := hv
  have HR : Hid (l = [] ∨ ∃ b o, ad = some ⟨b, o, none⟩ ∧ ∀ q u, (l.flatMap Ta.vals)[q]? = some u → w.cell? ⟨b, o + q, none⟩ = some u) := hrow
  obtain ⟨tot, ez⟩ : ∃ tot, lossF l p sp = tot := ⟨_, rfl⟩
  have EZ : Hid (lossF l p sp = tot) := ez
  rw [ez]
  clear hrow ez
  go_enter Tryd.func25, Tryd.ntmps25
  go_wp2_with fail
  go_loopw [7, 12] (fun mv iv wr => ∃ (k : Nat) (m : Int), k ≤ l.length ∧ mv = .int .i64 m ∧ iv = .int .i64 (k : Int) ∧ Below w.heap.size w wr ∧ Hid (mostF p (l.drop k) m = mostF p l 0)) (fun _ iv _ => l.length - (intOf iv).toNat)
  case atStart => exact ⟨0, 0, Nat.zero_le _, rfl, rfl, Below.refl _ _, rfl⟩
  case round =>
    obtain ⟨k, m, hk, rfl, rfl, hb, HQ⟩ := hrel
    have HB : Hid (Below w.heap.size w wr) := hb
    by_cases hkl : k < l.length
    · obtain ⟨x, hx, hd⟩ := drop_at hkl
      rcases HR.out with h | ⟨b, o, rfl, hrow⟩
      · rw [h] at hkl; simp at hkl
      obtain ⟨y0, y1, y2, y3, y4, y5, y6⟩ := ta_at (fun q u hq => below_cell hb (hrow q u hq)) hx
      have hq := HQ.out
      rw [hd, mostF] at hq
      obtain ⟨xn, xc, xt, xd, xj, xo, xp⟩ := x
      dsimp only at y0 y1 y2 y3 y4 y5 y6 hq
      have lb2 : b < wr.heap.size := World.block_lt_of_cell? _ _ y0
      have hki : (k : Int) < (l.length : Int) := by omega
      clear hx hd hb HQ hrow
      by_cases n2 : p ≤ xp
      · have n2b : decide (p ≤ xp) = true := decide_eq_true n2
        rw [if_pos n2] at hq
        have HE : Hid (mostF p (l.drop (k + 1)) (max m xc) = mostF p l 0) := hq
        clear hq
        go_wp2_with fail
        exact ⟨⟨k + 1, max m xc, by omega, by first | rfl | (congr 1; omega), by simp, below_seq HB.out (below_new _ _), HE⟩, by simp [intOf]; omega⟩
      · have n2b : decide (p ≤ xp) = false := decide_eq_false n2
        rw [if_neg n2] at hq
        have HE : Hid (mostF p (l.drop (k + 1)) m = mostF p l 0) := hq
        clear hq
        go_wp2_with fail
        exact ⟨⟨k + 1, m, by omega, rfl, by simp, below_seq HB.out (below_new _ _), HE⟩, by simp [intOf]; omega⟩
    · have hke : k = l.length := by omega
      subst hke
      have hq := HQ.out
      rw [List.drop_length, mostF] at hq
      have HM : Hid (m = mostF p l 0) := hq
      clear hb HQ hq
      by_cases hs : sp = 0
      · have hs1 : (sp == 0) = true := by simp [hs]
        have HT : Hid (m = tot) := by
          have e := EZ.out
          unfold lossF at e
          rw [if_pos hs, ← HM.out] at e
          exact e
        go_wp2_with fail
        go_ret
        have e := HT.out
        subst e
        exact ⟨rfl, HB.out⟩
      · have hs1 : (sp == 0) = false := by simp [hs]
        have HT : Hid (min m sp = tot) := by
          have e := EZ.out
          unfold lossF at e
          rw [if_neg hs, ← HM.out] at e
          exact e
        by_cases hms : m ≤ sp
        · go_wp2_with fail
          all_goals
            go_ret
            have e := HT.out
            rw [Int.min_eq_left hms] at e
            subst e
            exact ⟨rfl, HB.out⟩
        · go_wp2_with fail
          all_goals
            go_ret
            have e := HT.out
            rw [Int.min_eq_right (by omega)] at e
            subst e
            exact ⟨rfl, HB.out⟩

theorem up1_in {z : Int} {x : Ta} (hx : stands x = true) (hz : 0 ≤ z ∧ z ≤ 20000) : 0 ≤ up1 z x ∧ up1 z x ≤ 1000000000 := by
  obtain ⟨h1, h2, h3, h4, h5, h6, h7, h8, -, -⟩ := stands_t hx
  unfold up1
  have hq : 0 ≤ (z + x.j + x.t - 1) / x.t := Int.ediv_nonneg (by omega) (by omega)
  have hq2 : (z + x.j + x.t - 1) / x.t ≤ z + x.j + x.t - 1 := Int.ediv_le_self _ (by omega)
  refine ⟨Int.mul_nonneg hq (by omega), ?_⟩
  have : (z + x.j + x.t - 1) / x.t * x.c ≤ 40000 * 10000 := Int.mul_le_mul (by omega) (by omega) (by omega) (by omega)
  omega
theorem sumO_in {z : Int} (hz : 0 ≤ z ∧ z ≤ 20000) : ∀ (l : List Ta), (∀ x ∈ l, stands x = true) → 0 ≤ sumO z l ∧ sumO z l ≤ l.length * 1000000000
  | [], _ => by simp [sumO]
  | x :: r, h => by
    have h1 := up1_in (h x List.mem_cons_self) hz
    have h2 := sumO_in hz r (fun y hy => h y (List.mem_cons_of_mem _ hy))
    rw [sumO, List.length_cons]
    omega

set_option maxRecDepth 20000 in
set_option maxHeartbeats 4000000 in
theorem rahead_any (w : World) (l : List Ta) (i : Nat) (z : Int) (v : Value) (hl : l.length ≤ 8) (hi : i < l.length) (hs : ∀ x ∈ l, stands x = true) (hz : 0 ≤ z ∧ z ≤ 20000) (hv : RowSl Ta.vals w l v) :
    Calls Tryd.prog 28 #[v, .int .i64 (i : Int), .int .i64 z] w fun r w' => r = .returned (.int .i64 (sumO z (othF (aheadP l i) i l 0))) ∧ Below w.heap.size w w' := by
  obtain ⟨ad, c, rfl, -, hcap, hrow⟩ := hv
  rcases hrow with h | ⟨b, o, rfl, hrow⟩
  · rw [h] at hi; simp at hi
  have HR : Hid ((∀ q u, (l.flatMap Ta.vals)[q]? = some u → w.cell? ⟨b, o + q, none⟩ = some u) ∧ ∀ x ∈ l, stands x = true) := ⟨hrow, hs⟩
  obtain ⟨-, -, -, -, -, -, c6⟩ := ta_at hrow (Tk_get hi)
  obtain ⟨ip, hip⟩ : ∃ ip, (Tk l i).p = ip := ⟨_, rfl⟩
  rw [hip] at c6
  have lb : b < w.heap.size := World.block_lt_of_cell? _ _ c6
  have hii : (i : Int) < (l.length : Int) := by omega
  generalize ez : sumO z (othF (aheadP l i) i l 0) = tot
  have EZ : Hid (0 + sumO z (othF (aheadP l i) i l 0) = tot) := by rw [← ez]; show _ = _; omega
  have HI : Hid ((Tk l i).p = ip) := hip
  clear hrow hs hip ez
  go_enter Tryd.func28, Tryd.ntmps28
  go_wp2_with fail
  go_loopw [7, 12] (fun sv iv wr => ∃ (k : Nat) (s : Int), k ≤ l.length ∧ sv = .int .i64 s ∧ iv = .int .i64 (k : Int) ∧ Below w.heap.size w wr ∧ (0 ≤ s ∧ s ≤ 10000 + k * 1000000000) ∧ Hid (s + sumO z (othF (aheadP l i) i (l.drop k) k) = tot)) (fun _ iv _ => l.length - (intOf iv).toNat)
  case atStart => exact ⟨0, 0, Nat.zero_le _, rfl, rfl, Below.refl _ _, by omega, EZ.out⟩
  case round =>
    obtain ⟨k, s, hk, rfl, rfl, hb, hsb, HQ⟩ := hrel
    have HB : Hid (Below w.heap.size w wr) := hb
    by_cases hkl : k < l.length
    · obtain ⟨x, hx, hd⟩ := drop_at hkl
      have hst := HR.out.2 x (List.mem_of_getElem? hx)
      obtain ⟨y0, y1, y2, y3, y4, y5, y6⟩ := ta_at (fun q u hq => below_cell hb (HR.out.1 q u hq)) hx
      have c6' := below_cell hb c6
      have hu := up1_in hst hz
      have hTx : Tk l k = x := by unfold Tk; rw [List.getD_eq_getElem?_getD, hx]; rfl
      have hq := HQ.out
      rw [hd, othF] at hq
      have hap : aheadP l i k = decide (ip ≤ x.p) := by unfold aheadP; rw [HI.out, hTx]
      obtain ⟨g1, g2, g3, g4, g5, g6, g7, g8, -, -⟩ := stands_t hst
      have hup : up1 z x = (z + x.j + x.t - 1) / x.t * x.c := rfl
      obtain ⟨xn, xc, xt, xd, xj, xo, xp⟩ := x
      dsimp only at y0 y1 y2 y3 y4 y5 y6 g1 g2 g3 g4 g5 g6 g7 g8 hap hup
      have lb2 : b < wr.heap.size := World.block_lt_of_cell? _ _ y0
      have hki : (k : Int) < (l.length : Int) := by omega
      clear hx hd hTx hb HQ hst
      by_cases n1 : k = i
      · subst n1
        rw [if_neg (by simp)] at hq
        have HE : Hid (s + sumO z (othF (aheadP l k) k (l.drop (k + 1)) (k + 1)) = tot) := hq
        clear hq hap hup hu c6
        go_wp2_with fail
        refine wp_region_noPanic ?_
        refine wp_region_held_drew (S := fun w' => w'.cell? ⟨wr.heap.size, 6, none⟩ = some (.int .i64 xp)) (by kernel_rfl) (by go_simp) (fun hHeld => ?_)
        refine take_at (i := 0) (n := 17) (v := ?_) rfl rfl (by kernel_rfl) (by kernel_rfl) (by kernel_rfl) (fun _ _ _ h => h) (Or.inl ⟨by rfl, ?_⟩) (by assumption) ?_
        rotate_left 1
        · intro wz hSw
          have s0 := hSw
          first | (go_simp; done) | (go_simp; with_reducible rfl)
        simp only [List.set_cons_zero, List.set_cons_succ]
        refine take_at (i := 1) (n := 18) (v := ?_) rfl rfl (by kernel_rfl) (by kernel_rfl) (by kernel_rfl) (fun _ _ _ h => h) (Or.inl ⟨by rfl, ?_⟩) (by assumption) ?_
        rotate_left 1
        · intro wz hSw
          have s0 := hSw
          first | (go_simp; done) | (go_simp; with_reducible rfl)
        simp only [List.set_cons_zero, List.set_cons_succ]
        refine take_at (i := 2) (n := 19) (v := ?_) rfl rfl (by kernel_rfl) (by kernel_rfl) (by kernel_rfl) (fun _ _ _ h => h) (Or.inl ⟨by rfl, ?_⟩) (by assumption) ?_
        rotate_left 1
        · intro wz hSw
          have s0 := hSw
          first | (go_simp; done) | (go_simp; with_reducible rfl)
        simp only [List.set_cons_zero, List.set_cons_succ]
        refine take_at (i := 3) (n := 20) (v := ?_) rfl rfl (by kernel_rfl) (by kernel_rfl) (by kernel_rfl) (fun _ _ _ h => h) (Or.inl ⟨by rfl, ?_⟩) (by assumption) ?_
        rotate_left 1
        · intro wz hSw
          have s0 := hSw
          first | (go_simp; done) | (go_simp; with_reducible rfl)
        simp only [List.set_cons_zero, List.set_cons_succ]
        refine take_at (i := 4) (n := 21) (v := undef) rfl rfl (by kernel_rfl) (by kernel_rfl) (by kernel_rfl) (fun _ _ _ h => h) (Or.inr ⟨by rfl, rfl⟩) (by assumption) ?_
        simp only [List.set_cons_zero, List.set_cons_succ]
        refine take_at (i := 5) (n := 22) (v := undef) rfl rfl (by kernel_rfl) (by kernel_rfl) (by kernel_rfl) (fun _ _ _ h => h) (Or.inr ⟨by rfl, rfl⟩) (by assumption) ?_
        simp only [List.set_cons_zero, List.set_cons_succ]
        refine take_at (i := 6) (n := 23) (v := undef) rfl rfl (by kernel_rfl) (by kernel_rfl) (by kernel_rfl) (fun _ _ _ h => h) (Or.inr ⟨by rfl, rfl⟩) (by assumption) ?_
        simp only [List.set_cons_zero, List.set_cons_succ]
        refine take_at (i := 7) (n := 24) (v := undef) rfl rfl (by kernel_rfl) (by kernel_rfl) (by kernel_rfl) (fun _ _ _ h => h) (Or.inr ⟨by rfl, rfl⟩) (by assumption) ?_
        simp only [List.set_cons_zero, List.set_cons_succ]
        refine take_at (i := 8) (n := 25) (v := undef) rfl rfl (by kernel_rfl) (by kernel_rfl) (by kernel_rfl) (fun _ _ _ h => h) (Or.inr ⟨by rfl, rfl⟩) (by assumption) ?_
        simp only [List.set_cons_zero, List.set_cons_succ]
        refine take_at (i := 9) (n := 26) (v := undef) rfl rfl (by kernel_rfl) (by kernel_rfl) (by kernel_rfl) (fun _ _ _ h => h) (Or.inr ⟨by rfl, rfl⟩) (by assumption) ?_
        simp only [List.set_cons_zero, List.set_cons_succ]
        refine take_at (i := 10) (n := 27) (v := undef) rfl rfl (by kernel_rfl) (by kernel_rfl) (by kernel_rfl) (fun _ _ _ h => h) (Or.inr ⟨by rfl, rfl⟩) (by assumption) ?_
        simp only [List.set_cons_zero, List.set_cons_succ]
        refine take_at (i := 11) (n := 28) (v := undef) rfl rfl (by kernel_rfl) (by kernel_rfl) (by kernel_rfl) (fun _ _ _ h => h) (Or.inr ⟨by rfl, rfl⟩) (by assumption) ?_
        simp only [List.set_cons_zero, List.set_cons_succ]
        refine take_at (i := 12) (n := 29) (v := ?_) rfl rfl (by kernel_rfl) (by kernel_rfl) (by kernel_rfl) (fun _ _ _ h => h) (Or.inl ⟨by rfl, ?_⟩) (by assumption) ?_
        rotate_left 1
        · intro wz hSw
          have s0 := hSw
          first | (go_simp; done) | (go_simp; with_reducible rfl)
        simp only [List.set_cons_zero, List.set_cons_succ]
        refine wpAnyH_done (by kernel_rfl) ?_ _
        refine NoPanic.normal ?_
        clear hHeld
        go_wp2_with fail
        exact ⟨⟨k + 1, s, by omega, rfl, by simp, (below_seq HB.out (below_new _ _)).drew, by omega, HE⟩, by simp [intOf]; omega⟩
      have n1b : ((k : Int) != (i : Int)) = true := by simp; omega
      have n1c : ((k : Int) == (i : Int)) = false := beq_eq_false_iff_ne.2 (by omega)
      have n1d : decide ((k : Int) = (i : Int)) = false := decide_eq_false (by omega)
      have n1e : ¬ (k : Int) = (i : Int) := by omega
      by_cases n2 : ip ≤ xp
      · have n2b : decide (ip ≤ xp) = true := decide_eq_true n2
        rw [if_pos (by rw [hap]; simp [n1, n2]), sumO] at hq
        have HE : Hid (s + up1 z ⟨xn, xc, xt, xd, xj, xo, xp⟩ + sumO z (othF (aheadP l i) i (l.drop (k + 1)) (k + 1)) = tot) := by show _ = _; omega
        rw [hup] at hu HE
        have r1 : IntKind.i64.wrap (z + xj) = z + xj := by rw [IntKind.wrap_i64]; omega
        obtain ⟨pr, hpr⟩ : ∃ pr, (z + xj + xt - 1) / xt = pr := ⟨_, rfl⟩
        rw [hpr] at hu HE
        obtain ⟨pd, hpd⟩ : ∃ pd, pr * xc = pd := ⟨_, rfl⟩
        rw [hpd] at hu HE
        have r3 : IntKind.i64.wrap (pr * xc) = pd := by rw [hpd, IntKind.wrap_i64]; omega
        have r4 : IntKind.i64.wrap (s + pd) = s + pd := by rw [IntKind.wrap_i64]; omega
        clear hq hap hup hpd c6
        go_wp2_with fail
        refine wp_region_noPanic ?_
        refine wp_region_held_drew (S := fun w' => w'.cell? ⟨wr.heap.size, 6, none⟩ = some (.int .i64 xp) ∧ w'.cell? ⟨b, o + i * 7 + 6, none⟩ = some (.int .i64 ip)) (by kernel_rfl) ⟨by go_simp, by go_simp⟩ (fun hHeld => ?_)
        refine take_at (i := 0) (n := 17) (v := ?_) rfl rfl (by kernel_rfl) (by kernel_rfl) (by kernel_rfl) (fun _ _ _ h => h) (Or.inl ⟨by rfl, ?_⟩) (by assumption) ?_
        rotate_left 1
        · intro wz hSw
          obtain ⟨s0, s1⟩ := hSw
          first | (go_simp; done) | (go_simp; with_reducible rfl)
        simp only [List.set_cons_zero, List.set_cons_succ]
        refine take_at (i := 1) (n := 18) (v := ?_) rfl rfl (by kernel_rfl) (by kernel_rfl) (by kernel_rfl) (fun _ _ _ h => h) (Or.inl ⟨by rfl, ?_⟩) (by assumption) ?_
        rotate_left 1
        · intro wz hSw
          obtain ⟨s0, s1⟩ := hSw
          first | (go_simp; done) | (go_simp; with_reducible rfl)
        simp only [List.set_cons_zero, List.set_cons_succ]
        refine take_at (i := 2) (n := 19) (v := ?_) rfl rfl (by kernel_rfl) (by kernel_rfl) (by kernel_rfl) (fun _ _ _ h => h) (Or.inl ⟨by rfl, ?_⟩) (by assumption) ?_
        rotate_left 1
        · intro wz hSw
          obtain ⟨s0, s1⟩ := hSw
          first | (go_simp; done) | (go_simp; with_reducible rfl)
        simp only [List.set_cons_zero, List.set_cons_succ]
        refine take_at (i := 3) (n := 20) (v := ?_) rfl rfl (by kernel_rfl) (by kernel_rfl) (by kernel_rfl) (fun _ _ _ h => h) (Or.inl ⟨by rfl, ?_⟩) (by assumption) ?_
        rotate_left 1
        · intro wz hSw
          obtain ⟨s0, s1⟩ := hSw
          first | (go_simp; done) | (go_simp; with_reducible rfl)
        simp only [List.set_cons_zero, List.set_cons_succ]
        refine take_at (i := 4) (n := 21) (v := ?_) rfl rfl (by kernel_rfl) (by kernel_rfl) (by kernel_rfl) (fun _ _ _ h => h) (Or.inl ⟨by rfl, ?_⟩) (by assumption) ?_
        rotate_left 1
        · intro wz hSw
          obtain ⟨s0, s1⟩ := hSw
          first | (go_simp; done) | (go_simp; with_reducible rfl)
        simp only [List.set_cons_zero, List.set_cons_succ]
        refine take_at (i := 5) (n := 22) (v := ?_) rfl rfl (by kernel_rfl) (by kernel_rfl) (by kernel_rfl) (fun _ _ _ h => h) (Or.inl ⟨by rfl, ?_⟩) (by assumption) ?_
        rotate_left 1
        · intro wz hSw
          obtain ⟨s0, s1⟩ := hSw
          first | (go_simp; done) | (go_simp; with_reducible rfl)
        simp only [List.set_cons_zero, List.set_cons_succ]
        refine take_at (i := 6) (n := 23) (v := ?_) rfl rfl (by kernel_rfl) (by kernel_rfl) (by kernel_rfl) (fun _ _ _ h => h) (Or.inl ⟨by rfl, ?_⟩) (by assumption) ?_
        rotate_left 1
        · intro wz hSw
          obtain ⟨s0, s1⟩ := hSw
          first | (go_simp; done) | (go_simp; with_reducible rfl)
        simp only [List.set_cons_zero, List.set_cons_succ]
        refine take_at (i := 7) (n := 24) (v := ?_) rfl rfl (by kernel_rfl) (by kernel_rfl) (by kernel_rfl) (fun _ _ _ h => h) (Or.inl ⟨by rfl, ?_⟩) (by assumption) ?_
        rotate_left 1
        · intro wz hSw
          obtain ⟨s0, s1⟩ := hSw
          first | (go_simp; done) | (go_simp; with_reducible rfl)
        simp only [List.set_cons_zero, List.set_cons_succ]
        refine take_at (i := 8) (n := 25) (v := ?_) rfl rfl (by kernel_rfl) (by kernel_rfl) (by kernel_rfl) (fun _ _ _ h => h) (Or.inl ⟨by rfl, ?_⟩) (by assumption) ?_
        rotate_left 1
        · intro wz hSw
          obtain ⟨s0, s1⟩ := hSw
          first | (go_simp; done) | (go_simp; with_reducible rfl)
        simp only [List.set_cons_zero, List.set_cons_succ]
        refine take_at (i := 9) (n := 26) (v := ?_) rfl rfl (by kernel_rfl) (by kernel_rfl) (by kernel_rfl) (fun _ _ _ h => h) (Or.inl ⟨by rfl, ?_⟩) (by assumption) ?_
        rotate_left 1
        · intro wz hSw
          obtain ⟨s0, s1⟩ := hSw
          first | (go_simp; done) | (go_simp; with_reducible rfl)
        simp only [List.set_cons_zero, List.set_cons_succ]
        refine take_at (i := 10) (n := 27) (v := ?_) rfl rfl (by kernel_rfl) (by kernel_rfl) (by kernel_rfl) (fun _ _ _ h => h) (Or.inl ⟨by rfl, ?_⟩) (by assumption) ?_
        rotate_left 1
        · intro wz hSw
          obtain ⟨s0, s1⟩ := hSw
          first | (go_simp; done) | (go_simp; with_reducible rfl)
        simp only [List.set_cons_zero, List.set_cons_succ]
        refine take_at (i := 11) (n := 28) (v := ?_) rfl rfl (by kernel_rfl) (by kernel_rfl) (by kernel_rfl) (fun _ _ _ h => h) (Or.inl ⟨by rfl, ?_⟩) (by assumption) ?_
        rotate_left 1
        · intro wz hSw
          obtain ⟨s0, s1⟩ := hSw
          first | (go_simp; done) | (go_simp; with_reducible rfl)
        simp only [List.set_cons_zero, List.set_cons_succ]
        refine take_at (i := 12) (n := 29) (v := ?_) rfl rfl (by kernel_rfl) (by kernel_rfl) (by kernel_rfl) (fun _ _ _ h => h) (Or.inl ⟨by rfl, ?_⟩) (by assumption) ?_
        rotate_left 1
        · intro wz hSw
          obtain ⟨s0, s1⟩ := hSw
          first | (go_simp; done) | (go_simp; with_reducible rfl)
        simp only [List.set_cons_zero, List.set_cons_succ]
        refine wpAnyH_done (by kernel_rfl) ?_ _
        refine NoPanic.normal ?_
        clear hHeld
        go_wp2_with fail
        refine wp_region_noPanic ?_
        refine wp_region_held_drew (S := fun w' => w'.cell? ⟨wr.heap.size, 1, none⟩ = some (.int .i64 xc) ∧ w'.cell? ⟨wr.heap.size, 2, none⟩ = some (.int .i64 xt) ∧ w'.cell? ⟨wr.heap.size, 4, none⟩ = some (.int .i64 xj)) (by kernel_rfl) ⟨by go_simp, by go_simp, by go_simp⟩ (fun hHeld => ?_)
        refine take_at (i := 0) (n := 30) (v := ?_) rfl rfl (by kernel_rfl) (by kernel_rfl) (by kernel_rfl) (fun _ _ _ h => h) (Or.inl ⟨by rfl, ?_⟩) (by assumption) ?_
        rotate_left 1
        · intro wz hSw
          obtain ⟨s0, s1, s2⟩ := hSw
          first | (go_simp; done) | (go_simp; with_reducible rfl)
        simp only [List.set_cons_zero, List.set_cons_succ]
        refine take_at (i := 1) (n := 31) (v := ?_) rfl rfl (by kernel_rfl) (by kernel_rfl) (by kernel_rfl) (fun _ _ _ h => h) (Or.inl ⟨by rfl, ?_⟩) (by assumption) ?_
        rotate_left 1
        · intro wz hSw
          obtain ⟨s0, s1, s2⟩ := hSw
          first | (go_simp; done) | (go_simp; with_reducible rfl)
        simp only [List.set_cons_zero, List.set_cons_succ]
        refine take_at (i := 2) (n := 32) (v := ?_) rfl rfl (by kernel_rfl) (by kernel_rfl) (by kernel_rfl) (fun _ _ _ h => h) (Or.inl ⟨by rfl, ?_⟩) (by assumption) ?_
        rotate_left 1
        · intro wz hSw
          obtain ⟨s0, s1, s2⟩ := hSw
          first | (go_simp; done) | (go_simp; with_reducible rfl)
        simp only [List.set_cons_zero, List.set_cons_succ]
        refine take_at (i := 3) (n := 33) (v := ?_) rfl rfl (by kernel_rfl) (by kernel_rfl) (by kernel_rfl) (fun _ _ _ h => h) (Or.inl ⟨by rfl, ?_⟩) (by assumption) ?_
        rotate_left 1
        · intro wz hSw
          obtain ⟨s0, s1, s2⟩ := hSw
          first | (go_simp; done) | (go_simp; with_reducible rfl)
        simp only [List.set_cons_zero, List.set_cons_succ]
        refine take_at (i := 4) (n := 34) (v := ?_) rfl rfl (by kernel_rfl) (by kernel_rfl) (by kernel_rfl) (fun _ _ _ h => h) (Or.inl ⟨by rfl, ?_⟩) (by assumption) ?_
        rotate_left 1
        · intro wz hSw
          obtain ⟨s0, s1, s2⟩ := hSw
          first | (go_simp; done) | (go_simp; with_reducible rfl)
        simp only [List.set_cons_zero, List.set_cons_succ]
        refine take_at (i := 5) (n := 35) (v := ?_) rfl rfl (by kernel_rfl) (by kernel_rfl) (by kernel_rfl) (fun _ _ _ h => h) (Or.inl ⟨by rfl, ?_⟩) (by assumption) ?_
        rotate_left 1
        · intro wz hSw
          obtain ⟨s0, s1, s2⟩ := hSw
          first | (go_simp; done) | (go_simp; with_reducible rfl)
        simp only [List.set_cons_zero, List.set_cons_succ]
        refine take_at (i := 6) (n := 36) (v := ?_) rfl rfl (by kernel_rfl) (by kernel_rfl) (by kernel_rfl) (fun _ _ _ h => h) (Or.inl ⟨by rfl, ?_⟩) (by assumption) ?_
        rotate_left 1
        · intro wz hSw
          obtain ⟨s0, s1, s2⟩ := hSw
          first | (go_simp; done) | (go_simp; with_reducible rfl)
        simp only [List.set_cons_zero, List.set_cons_succ]
        refine take_at (i := 8) (n := 38) (v := ?_) rfl rfl (by kernel_rfl) (by kernel_rfl) (by kernel_rfl) (fun _ _ _ h => h) (Or.inl ⟨by rfl, ?_⟩) (by assumption) ?_
        rotate_left 1
        · intro wz hSw
          obtain ⟨s0, s1, s2⟩ := hSw
          first | (go_simp; done) | (go_simp; with_reducible rfl)
        simp only [List.set_cons_zero, List.set_cons_succ]
        refine take_at (i := 9) (n := 39) (v := ?_) rfl rfl (by kernel_rfl) (by kernel_rfl) (by kernel_rfl) (fun _ _ _ h => h) (Or.inl ⟨by rfl, ?_⟩) (by assumption) ?_
        rotate_left 1
        · intro wz hSw
          obtain ⟨s0, s1, s2⟩ := hSw
          first | (go_simp; done) | (go_simp; with_reducible rfl)
        simp only [List.set_cons_zero, List.set_cons_succ]
        refine wpAnyH_ready (rs := [7]) (by kernel_rfl) (by simp) ?_
        refine AllReadyH.cons rfl (fun K hK => ?_) AllReadyH.nil
        go_simp
        go_wp2_with (go_at_call 29; refine (rroundUp_any _ _ _ (by omega) (by omega)).mono ?_; rintro r w9 ⟨rfl, hw9⟩; have hw8 := hw9.symm; subst hw8; clear hw9; rw [hpr])
        refine hK.out _ _ ⟨by go_simp, by go_simp, by go_simp⟩ (fun hHeld => ?_)
        clear hK K
        try simp only [List.set_cons_zero, List.set_cons_succ]
        refine take_at (i := 10) (n := 40) (v := ?_) rfl rfl (by kernel_rfl) (by kernel_rfl) (by kernel_rfl) (fun _ _ _ h => h) (Or.inl ⟨by rfl, ?_⟩) (by assumption) ?_
        rotate_left 1
        · intro wz hSw
          obtain ⟨s0, s1, s2⟩ := hSw
          first | (go_simp; done) | (go_simp; with_reducible rfl)
        simp only [List.set_cons_zero, List.set_cons_succ]
        refine take_at (i := 11) (n := 41) (v := ?_) rfl rfl (by kernel_rfl) (by kernel_rfl) (by kernel_rfl) (fun _ _ _ h => h) (Or.inl ⟨by rfl, ?_⟩) (by assumption) ?_
        rotate_left 1
        · intro wz hSw
          obtain ⟨s0, s1, s2⟩ := hSw
          first | (go_simp; done) | (go_simp; with_reducible rfl)
        simp only [List.set_cons_zero, List.set_cons_succ]
        refine take_at (i := 12) (n := 7) (v := ?_) rfl rfl (by kernel_rfl) (by kernel_rfl) (by kernel_rfl) (fun _ _ _ h => h) (Or.inl ⟨by rfl, ?_⟩) (by assumption) ?_
        rotate_left 1
        · intro wz hSw
          obtain ⟨s0, s1, s2⟩ := hSw
          first | (go_simp; done) | (go_simp; with_reducible rfl)
        simp only [List.set_cons_zero, List.set_cons_succ]
        refine wpAnyH_done (by kernel_rfl) ?_ _
        refine NoPanic.normal ?_
        clear hHeld
        go_wp2_with fail
        exact ⟨⟨k + 1, s + pd, by omega, rfl, by simp, (below_seq HB.out (below_new _ _)).drew.drew, by omega, HE⟩, by simp [intOf]; omega⟩
      · have n2b : decide (ip ≤ xp) = false := decide_eq_false n2
        rw [if_neg (by rw [hap]; simp [n2])] at hq
        have HE : Hid (s + sumO z (othF (aheadP l i) i (l.drop (k + 1)) (k + 1)) = tot) := hq
        clear hq hap hup hu c6
        go_wp2_with fail
        refine wp_region_noPanic ?_
        refine wp_region_held_drew (S := fun w' => w'.cell? ⟨wr.heap.size, 6, none⟩ = some (.int .i64 xp) ∧ w'.cell? ⟨b, o + i * 7 + 6, none⟩ = some (.int .i64 ip)) (by kernel_rfl) ⟨by go_simp, by go_simp⟩ (fun hHeld => ?_)
        refine take_at (i := 0) (n := 17) (v := ?_) rfl rfl (by kernel_rfl) (by kernel_rfl) (by kernel_rfl) (fun _ _ _ h => h) (Or.inl ⟨by rfl, ?_⟩) (by assumption) ?_
        rotate_left 1
        · intro wz hSw
          obtain ⟨s0, s1⟩ := hSw
          first | (go_simp; done) | (go_simp; with_reducible rfl)
        simp only [List.set_cons_zero, List.set_cons_succ]
        refine take_at (i := 1) (n := 18) (v := ?_) rfl rfl (by kernel_rfl) (by kernel_rfl) (by kernel_rfl) (fun _ _ _ h => h) (Or.inl ⟨by rfl, ?_⟩) (by assumption) ?_
        rotate_left 1
        · intro wz hSw
          obtain ⟨s0, s1⟩ := hSw
          first | (go_simp; done) | (go_simp; with_reducible rfl)
        simp only [List.set_cons_zero, List.set_cons_succ]
        refine take_at (i := 2) (n := 19) (v := ?_) rfl rfl (by kernel_rfl) (by kernel_rfl) (by kernel_rfl) (fun _ _ _ h => h) (Or.inl ⟨by rfl, ?_⟩) (by assumption) ?_
        rotate_left 1
        · intro wz hSw
          obtain ⟨s0, s1⟩ := hSw
          first | (go_simp; done) | (go_simp; with_reducible rfl)
        simp only [List.set_cons_zero, List.set_cons_succ]
        refine take_at (i := 3) (n := 20) (v := ?_) rfl rfl (by kernel_rfl) (by kernel_rfl) (by kernel_rfl) (fun _ _ _ h => h) (Or.inl ⟨by rfl, ?_⟩) (by assumption) ?_
        rotate_left 1
        · intro wz hSw
          obtain ⟨s0, s1⟩ := hSw
          first | (go_simp; done) | (go_simp; with_reducible rfl)
        simp only [List.set_cons_zero, List.set_cons_succ]
        refine take_at (i := 4) (n := 21) (v := ?_) rfl rfl (by kernel_rfl) (by kernel_rfl) (by kernel_rfl) (fun _ _ _ h => h) (Or.inl ⟨by rfl, ?_⟩) (by assumption) ?_
        rotate_left 1
        · intro wz hSw
          obtain ⟨s0, s1⟩ := hSw
          first | (go_simp; done) | (go_simp; with_reducible rfl)
        simp only [List.set_cons_zero, List.set_cons_succ]
        refine take_at (i := 5) (n := 22) (v := ?_) rfl rfl (by kernel_rfl) (by kernel_rfl) (by kernel_rfl) (fun _ _ _ h => h) (Or.inl ⟨by rfl, ?_⟩) (by assumption) ?_
        rotate_left 1
        · intro wz hSw
          obtain ⟨s0, s1⟩ := hSw
          first | (go_simp; done) | (go_simp; with_reducible rfl)
        simp only [List.set_cons_zero, List.set_cons_succ]
        refine take_at (i := 6) (n := 23) (v := ?_) rfl rfl (by kernel_rfl) (by kernel_rfl) (by kernel_rfl) (fun _ _ _ h => h) (Or.inl ⟨by rfl, ?_⟩) (by assumption) ?_
        rotate_left 1
        · intro wz hSw
          obtain ⟨s0, s1⟩ := hSw
          first | (go_simp; done) | (go_simp; with_reducible rfl)
        simp only [List.set_cons_zero, List.set_cons_succ]
        refine take_at (i := 7) (n := 24) (v := ?_) rfl rfl (by kernel_rfl) (by kernel_rfl) (by kernel_rfl) (fun _ _ _ h => h) (Or.inl ⟨by rfl, ?_⟩) (by assumption) ?_
        rotate_left 1
        · intro wz hSw
          obtain ⟨s0, s1⟩ := hSw
          first | (go_simp; done) | (go_simp; with_reducible rfl)
        simp only [List.set_cons_zero, List.set_cons_succ]
        refine take_at (i := 8) (n := 25) (v := ?_) rfl rfl (by kernel_rfl) (by kernel_rfl) (by kernel_rfl) (fun _ _ _ h => h) (Or.inl ⟨by rfl, ?_⟩) (by assumption) ?_
        rotate_left 1
        · intro wz hSw
          obtain ⟨s0, s1⟩ := hSw
          first | (go_simp; done) | (go_simp; with_reducible rfl)
        simp only [List.set_cons_zero, List.set_cons_succ]
        refine take_at (i := 9) (n := 26) (v := ?_) rfl rfl (by kernel_rfl) (by kernel_rfl) (by kernel_rfl) (fun _ _ _ h => h) (Or.inl ⟨by rfl, ?_⟩) (by assumption) ?_
        rotate_left 1
        · intro wz hSw
          obtain ⟨s0, s1⟩ := hSw
          first | (go_simp; done) | (go_simp; with_reducible rfl)
        simp only [List.set_cons_zero, List.set_cons_succ]
        refine take_at (i := 10) (n := 27) (v := ?_) rfl rfl (by kernel_rfl) (by kernel_rfl) (by kernel_rfl) (fun _ _ _ h => h) (Or.inl ⟨by rfl, ?_⟩) (by assumption) ?_
        rotate_left 1
        · intro wz hSw
          obtain ⟨s0, s1⟩ := hSw
          first | (go_simp; done) | (go_simp; with_reducible rfl)
        simp only [List.set_cons_zero, List.set_cons_succ]
        refine take_at (i := 11) (n := 28) (v := ?_) rfl rfl (by kernel_rfl) (by kernel_rfl) (by kernel_rfl) (fun _ _ _ h => h) (Or.inl ⟨by rfl, ?_⟩) (by assumption) ?_
        rotate_left 1
        · intro wz hSw
          obtain ⟨s0, s1⟩ := hSw
          first | (go_simp; done) | (go_simp; with_reducible rfl)
        simp only [List.set_cons_zero, List.set_cons_succ]
        refine take_at (i := 12) (n := 29) (v := ?_) rfl rfl (by kernel_rfl) (by kernel_rfl) (by kernel_rfl) (fun _ _ _ h => h) (Or.inl ⟨by rfl, ?_⟩) (by assumption) ?_
        rotate_left 1
        · intro wz hSw
          obtain ⟨s0, s1⟩ := hSw
          first | (go_simp; done) | (go_simp; with_reducible rfl)
        simp only [List.set_cons_zero, List.set_cons_succ]
        refine wpAnyH_done (by kernel_rfl) ?_ _
        refine NoPanic.normal ?_
        clear hHeld
        go_wp2_with fail
        exact ⟨⟨k + 1, s, by omega, rfl, by simp, (below_seq HB.out (below_new _ _)).drew, by omega, HE⟩, by simp [intOf]; omega⟩
    · have hke : k = l.length := by omega
      subst hke
      have hq := HQ.out
      rw [List.drop_length, othF, sumO] at hq
      have HE : Hid (s = tot) := by show _ = _; omega
      clear hb HQ hq
      go_wp2_with fail
      go_ret
      have e := HE.out
      subst e
      exact ⟨rfl, HB.out⟩
end Go.Proofs.YtekbkcgpjkecbalDoor
namespace Go.Proofs.YtekbkcgpjkecbalDoor
open Go.ChangeShapes Go.WideShapes Go.ChangeAt Go.RowKit

theorem lossF_range {l : List Ta} {p sp : Int} (hs : ∀ x ∈ l, stands x = true) (h0 : 0 ≤ sp) : 0 ≤ lossF l p sp ∧ lossF l p sp ≤ 10000 := by
  have := mostF_range (p := p) l 0 hs (Int.le_refl _) (by omega)
  unfold lossF
  split <;> omega

theorem upG_range {z gap : Int} (hz : 0 ≤ z ∧ z ≤ 20000) (hg : 1 ≤ gap) : 0 ≤ (z + gap - 1) / gap ∧ (z + gap - 1) / gap ≤ 20000 := by
  refine ⟨Int.ediv_nonneg (by omega) (by omega), ?_⟩
  apply Int.le_of_lt_add_one
  apply Int.ediv_lt_of_lt_mul (by omega)
  have h1 : z ≤ z * gap := by
    have := Int.mul_le_mul_of_nonneg_left (a := 1) (b := gap) (c := z) (by omega) (by omega)
    omega
  have h2 : z * gap ≤ 20000 * gap := Int.mul_le_mul_of_nonneg_right (by omega) (by omega)
  have h3 : (20000 + 1) * gap = 20000 * gap + gap := by rw [Int.add_mul]; omega
  omega

theorem askR_range {l : List Ta} {i : Nat} {gap sp z : Int} (hl : l.length ≤ 8) (hi : i < l.length) (hs : ∀ x ∈ l, stands x = true) (hz : 0 ≤ z ∧ z ≤ 20000) (hg : 1 ≤ gap) (h0 : 0 ≤ sp) : 1 ≤ askR l i gap sp z ∧ askR l i gap sp z ≤ 10000000000 := by
  have h1 := sumO_in hz (othF (aheadP l i) i l 0) (fun x hx => hs x (othF_mem l 0 x hx))
  have h2 := othF_len (A := aheadP l i) (i := i) l 0
  have h3 := stands_t (stands_mem hs hi)
  have h4 := lossF_range (p := (Tk l i).p) hs h0
  have h5 := upG_range hz hg
  have h6 : 0 ≤ (z + gap - 1) / gap * lossF l (Tk l i).p sp := Int.mul_nonneg h5.1 h4.1
  have h7 : (z + gap - 1) / gap * lossF l (Tk l i).p sp ≤ 20000 * 10000 := Int.mul_le_mul h5.2 h4.2 h4.1 (by omega)
  unfold askR askF
  omega

theorem askR_mono {l : List Ta} {i : Nat} {gap sp x y : Int} (hs : ∀ x ∈ l, stands x = true) (hx : x ≤ y) (hg : 1 ≤ gap) (h0 : 0 ≤ sp) : askR l i gap sp x ≤ askR l i gap sp y := by
  have h1 := sumO_mono hx (othF (aheadP l i) i l 0) (fun x hx => hs x (othF_mem l 0 x hx))
  have h4 := lossF_range (p := (Tk l i).p) hs h0
  have h5 : (x + gap - 1) / gap * lossF l (Tk l i).p sp ≤ (y + gap - 1) / gap * lossF l (Tk l i).p sp := Int.mul_le_mul_of_nonneg_right (Int.ediv_le_ediv (by omega) (by omega)) h4.1
  unfold askR askF
  omega

set_option maxRecDepth 20000 in
set_option maxHeartbeats 4000000 in
theorem askc_any (w : World) (l : List Ta) (i : Nat) (gap sp z : Int) (v : Value) (g0 g1 g2 g3 g4 : Nat) (hl : l.length ≤ 8) (hi : i < l.length) (hs : ∀ x ∈ l, stands x = true) (hz : 0 ≤ z ∧ z ≤ 20000) (hg : 1 ≤ gap ∧ gap ≤ 20000) (h0 : 0 ≤ sp) (hv : RowSl Ta.vals w l v)
    (c0 : w.cell? ⟨g0, 1, none⟩ = some (.int .i64 (Tk l i).c)) (c1 : w.cell? ⟨g1, 0, none⟩ = some v) (c2 : w.cell? ⟨g2, 0, none⟩ = some (.int .i64 (i : Int))) (c3 : w.cell? ⟨g3, 0, none⟩ = some (.int .i64 gap)) (c4 : w.cell? ⟨g4, 0, none⟩ = some (.int .i64 (lossF l (Tk l i).p sp))) :
    Calls Tryd.prog 27 #[.int .i64 z, .pointer (some ⟨g0, 0, none⟩), .pointer (some ⟨g1, 0, none⟩), .pointer (some ⟨g2, 0, none⟩), .pointer (some ⟨g3, 0, none⟩), .pointer (some ⟨g4, 0, none⟩)] w fun r w' => r = .returned (.int .i64 (askR l i gap sp z)) ∧ Below w.heap.size w w' := by
  have HA : Hid (∀ W, Below w.heap.size w W → Calls Tryd.prog 28 #[v, .int .i64 (i : Int), .int .i64 z] W fun r w' => r = .returned (.int .i64 (sumO z (othF (aheadP l i) i l 0))) ∧ Below W.heap.size W w') := fun W hb => rahead_any W l i z v hl hi hs hz (hv.below hb)
  have h1 := sumO_in hz (othF (aheadP l i) i l 0) (fun x hx => hs x (othF_mem l 0 x hx))
  have h2 := othF_len (A := aheadP l i) (i := i) l 0
  have h3 := stands_t (stands_mem hs hi)
  have h4 := lossF_range (p := (Tk l i).p) hs h0
  have h5 := upG_range hz hg.1
  have h6 : 0 ≤ (z + gap - 1) / gap * lossF l (Tk l i).p sp := Int.mul_nonneg h5.1 h4.1
  have h7 : (z + gap - 1) / gap * lossF l (Tk l i).p sp ≤ 20000 * 10000 := Int.mul_le_mul h5.2 h4.2 h4.1 (by omega)
  unfold askR askF
  obtain ⟨ad, c, rfl⟩ := hv.len
  generalize hcc : (Tk l i).c = cc at *
  generalize hun : lossF l (Tk l i).p sp = un at *
  generalize hsm : sumO z (othF (aheadP l i) i l 0) = sm at *
  obtain ⟨pr, hpr⟩ : ∃ pr, (z + gap - 1) / gap = pr := ⟨_, rfl⟩
  rw [hpr] at h5 h6 h7 ⊢
  obtain ⟨pd, hpd⟩ : ∃ pd, pr * un = pd := ⟨_, rfl⟩
  rw [hpd] at h6 h7 ⊢
  have r1 : IntKind.i64.wrap (cc + sm) = cc + sm := by rw [IntKind.wrap_i64]; omega
  have r2 : IntKind.i64.wrap (pr * un) = pd := by rw [hpd, IntKind.wrap_i64]; omega
  have r3 : IntKind.i64.wrap (cc + sm + pd) = cc + sm + pd := by rw [IntKind.wrap_i64]; omega
  clear hv hs h1 h2 h3 h4 hcc hun hsm hpd
  go_enter Tryd.func27, Tryd.ntmps27
  go_wp2_with fail
  refine wp_region_noPanic ?_
  refine wp_region_held_drew (S := fun w' => w'.cell? ⟨g0, 1, none⟩ = some (.int .i64 cc) ∧ w'.cell? ⟨g1, 0, none⟩ = some (.slice ad l.length c) ∧ w'.cell? ⟨g2, 0, none⟩ = some (.int .i64 (i : Int)) ∧ w'.cell? ⟨g3, 0, none⟩ = some (.int .i64 gap) ∧ w'.cell? ⟨g4, 0, none⟩ = some (.int .i64 un)) (by kernel_rfl) ⟨c0, c1, c2, c3, c4⟩ (fun hHeld => ?_)
  refine take_at (i := 0) (n := 8) (v := ?_) rfl rfl (by kernel_rfl) (by kernel_rfl) (by kernel_rfl) (fun _ _ _ h => h) (Or.inl ⟨by rfl, ?_⟩) (by assumption) ?_
  rotate_left 1
  · intro wz hSw
    obtain ⟨s0, s1, s2, s3, s4⟩ := hSw
    first | (go_simp; done) | (go_simp; with_reducible rfl)
  simp only [List.set_cons_zero, List.set_cons_succ]
  refine take_at (i := 1) (n := 9) (v := ?_) rfl rfl (by kernel_rfl) (by kernel_rfl) (by kernel_rfl) (fun _ _ _ h => h) (Or.inl ⟨by rfl, ?_⟩) (by assumption) ?_
  rotate_left 1
  · intro wz hSw
    obtain ⟨s0, s1, s2, s3, s4⟩ := hSw
    first | (go_simp; done) | (go_simp; with_reducible rfl)
  simp only [List.set_cons_zero, List.set_cons_succ]
  refine take_at (i := 2) (n := 10) (v := ?_) rfl rfl (by kernel_rfl) (by kernel_rfl) (by kernel_rfl) (fun _ _ _ h => h) (Or.inl ⟨by rfl, ?_⟩) (by assumption) ?_
  rotate_left 1
  · intro wz hSw
    obtain ⟨s0, s1, s2, s3, s4⟩ := hSw
    first | (go_simp; done) | (go_simp; with_reducible rfl)
  simp only [List.set_cons_zero, List.set_cons_succ]
  refine take_at (i := 3) (n := 11) (v := ?_) rfl rfl (by kernel_rfl) (by kernel_rfl) (by kernel_rfl) (fun _ _ _ h => h) (Or.inl ⟨by rfl, ?_⟩) (by assumption) ?_
  rotate_left 1
  · intro wz hSw
    obtain ⟨s0, s1, s2, s3, s4⟩ := hSw
    first | (go_simp; done) | (go_simp; with_reducible rfl)
  simp only [List.set_cons_zero, List.set_cons_succ]
  refine take_at (i := 4) (n := 12) (v := ?_) rfl rfl (by kernel_rfl) (by kernel_rfl) (by kernel_rfl) (fun _ _ _ h => h) (Or.inl ⟨by rfl, ?_⟩) (by assumption) ?_
  rotate_left 1
  · intro wz hSw
    obtain ⟨s0, s1, s2, s3, s4⟩ := hSw
    first | (go_simp; done) | (go_simp; with_reducible rfl)
  simp only [List.set_cons_zero, List.set_cons_succ]
  refine take_at (i := 7) (n := 15) (v := ?_) rfl rfl (by kernel_rfl) (by kernel_rfl) (by kernel_rfl) (fun _ _ _ h => h) (Or.inl ⟨by rfl, ?_⟩) (by assumption) ?_
  rotate_left 1
  · intro wz hSw
    obtain ⟨s0, s1, s2, s3, s4⟩ := hSw
    first | (go_simp; done) | (go_simp; with_reducible rfl)
  simp only [List.set_cons_zero, List.set_cons_succ]
  refine take_at (i := 8) (n := 16) (v := ?_) rfl rfl (by kernel_rfl) (by kernel_rfl) (by kernel_rfl) (fun _ _ _ h => h) (Or.inl ⟨by rfl, ?_⟩) (by assumption) ?_
  rotate_left 1
  · intro wz hSw
    obtain ⟨s0, s1, s2, s3, s4⟩ := hSw
    first | (go_simp; done) | (go_simp; with_reducible rfl)
  simp only [List.set_cons_zero, List.set_cons_succ]
  refine take_at (i := 10) (n := 18) (v := ?_) rfl rfl (by kernel_rfl) (by kernel_rfl) (by kernel_rfl) (fun _ _ _ h => h) (Or.inl ⟨by rfl, ?_⟩) (by assumption) ?_
  rotate_left 1
  · intro wz hSw
    obtain ⟨s0, s1, s2, s3, s4⟩ := hSw
    first | (go_simp; done) | (go_simp; with_reducible rfl)
  simp only [List.set_cons_zero, List.set_cons_succ]
  refine wpAnyH_ready (rs := [5]) (by kernel_rfl) (by simp) ?_
  refine AllReadyH.cons rfl (fun K hK => ?_) AllReadyH.nil
  go_simp
  go_wp2_with (go_at_call 28; refine (HA.out _ (Below.refl _ _).drew).mono ?_; rintro r w9 ⟨rfl, hb9⟩; have H9 : Hid (Below w.heap.size w w9) := below_seq (Below.refl _ _).drew hb9; have d0 := below_cell H9.out c0; have d1 := below_cell H9.out c1; have d2 := below_cell H9.out c2; have d3 := below_cell H9.out c3; have d4 := below_cell H9.out c4; clear hb9 c0 c1 c2 c3 c4)
  refine hK.out _ _ ⟨d0, d1, d2, d3, d4⟩ (fun hHeld => ?_)
  clear hK K
  try simp only [List.set_cons_zero, List.set_cons_succ]
  refine take_at (i := 6) (n := 14) (v := ?_) rfl rfl (by kernel_rfl) (by kernel_rfl) (by kernel_rfl) (fun _ _ _ h => h) (Or.inl ⟨by rfl, ?_⟩) (by assumption) ?_
  rotate_left 1
  · intro wz hSw
    obtain ⟨s0, s1, s2, s3, s4⟩ := hSw
    first | (go_simp; done) | (go_simp; with_reducible rfl)
  simp only [List.set_cons_zero, List.set_cons_succ]
  refine wpAnyH_ready (rs := [9]) (by kernel_rfl) (by simp) ?_
  refine AllReadyH.cons rfl (fun K hK => ?_) AllReadyH.nil
  go_simp
  go_wp2_with (go_at_call 29; refine (rroundUp_any _ _ _ (by omega) (by omega)).mono ?_; rintro r w8 ⟨rfl, hw8⟩; have hw7 := hw8.symm; subst hw7; clear hw8; rw [hpr])
  refine hK.out _ _ ⟨d0, d1, d2, d3, d4⟩ (fun hHeld => ?_)
  clear hK K
  try simp only [List.set_cons_zero, List.set_cons_succ]
  refine take_at (i := 11) (n := 19) (v := ?_) rfl rfl (by kernel_rfl) (by kernel_rfl) (by kernel_rfl) (fun _ _ _ h => h) (Or.inl ⟨by rfl, ?_⟩) (by assumption) ?_
  rotate_left 1
  · intro wz hSw
    obtain ⟨s0, s1, s2, s3, s4⟩ := hSw
    first | (go_simp; done) | (go_simp; with_reducible rfl)
  simp only [List.set_cons_zero, List.set_cons_succ]
  refine take_at (i := 12) (n := 20) (v := ?_) rfl rfl (by kernel_rfl) (by kernel_rfl) (by kernel_rfl) (fun _ _ _ h => h) (Or.inl ⟨by rfl, ?_⟩) (by assumption) ?_
  rotate_left 1
  · intro wz hSw
    obtain ⟨s0, s1, s2, s3, s4⟩ := hSw
    first | (go_simp; done) | (go_simp; with_reducible rfl)
  simp only [List.set_cons_zero, List.set_cons_succ]
  refine take_at (i := 13) (n := 7) (v := ?_) rfl rfl (by kernel_rfl) (by kernel_rfl) (by kernel_rfl) (fun _ _ _ h => h) (Or.inl ⟨by rfl, ?_⟩) (by assumption) ?_
  rotate_left 1
  · intro wz hSw
    obtain ⟨s0, s1, s2, s3, s4⟩ := hSw
    first | (go_simp; done) | (go_simp; with_reducible rfl)
  simp only [List.set_cons_zero, List.set_cons_succ]
  refine wpAnyH_done (by kernel_rfl) ?_ _
  refine NoPanic.normal ?_
  clear hHeld
  go_wp2_with fail
  go_ret
  exact ⟨rfl, H9.out⟩

theorem settle_ends {w : World} {a : Act} {x y : Value} (h1 : a.tmps[6]?.getD undef = x) (h2 : a.tmps[7]?.getD undef = y) : (results Tryd.f26 a.tmps).run Tryd.prog w = .ok (.tuple #[x, y]) w := by
  simp [results, Tryd.results26, go_sem, h1, h2]

set_option maxRecDepth 20000 in
set_option maxHeartbeats 4000000 in
theorem settle_any (w : World) (a0 most : Int) (p0 p1 p2 p3 p4 : Value) (ask : Int → Int) (h1 : 1 ≤ a0)
    (HA : ∀ W, Below w.heap.size w W → ∀ z, 1 ≤ z → z ≤ most → Calls Tryd.prog 27 #[.int .i64 z, p0, p1, p2, p3, p4] W fun r w' => r = .returned (.int .i64 (ask z)) ∧ Below W.heap.size W w')
    (hup : a0 ≤ ask a0) (mono : ∀ x y, 1 ≤ x → x ≤ y → y ≤ most → ask x ≤ ask y) (hno : ∀ v, 1 ≤ v → v < a0 → v ≤ most → ask v ≠ v) :
    Calls Tryd.prog 26 #[.int .i64 a0, .int .i64 most, .func (Fn.func 27) #[] #[p0, p1, p2, p3, p4]] w fun r w' => r = .returned (.tuple #[.int .i64 (wOf ask 0 most), .bool (decide (wOf ask 0 most ≠ 0))]) ∧ Below w.heap.size w w' := by
  have HS : Hid (∀ W, Below w.heap.size w W → ∀ z, 1 ≤ z → z ≤ most → Calls Tryd.prog 27 #[.int .i64 z, p0, p1, p2, p3, p4] W fun r w' => r = .returned (.int .i64 (ask z)) ∧ Below W.heap.size W w') := HA
  have HM : Hid ((∀ x y, 1 ≤ x → x ≤ y → y ≤ most → ask x ≤ ask y) ∧ a0 ≤ ask a0 ∧ ∀ v, 1 ≤ v → v < a0 → v ≤ most → ask v ≠ v) := ⟨mono, hup, hno⟩
  obtain ⟨tot, htot⟩ : ∃ tot, wOf ask 0 most = tot := ⟨_, rfl⟩
  have HT : Hid (wOf ask 0 most = tot) := htot
  rw [htot]
  clear HA mono hup hno htot
  go_enter Tryd.func26, Tryd.ntmps26
  go_wp2_with fail
  go_loopw [8] (fun xv wr => ∃ x : Int, xv = .int .i64 x ∧ Below w.heap.size w wr ∧ 1 ≤ x ∧ Hid ((x ≤ most → x ≤ ask x) ∧ ∀ v, 1 ≤ v → v < x → v ≤ most → ask v ≠ v)) (fun xv _ => (most + 1 - intOf xv).toNat)
  case atStart => exact ⟨a0, rfl, Below.refl _ _, h1, fun _ => HM.out.2.1, HM.out.2.2⟩
  case round =>
    obtain ⟨x, rfl, hb, hx1, HX⟩ := hrel
    have HB : Hid (Below w.heap.size w wr) := hb
    by_cases hle : x ≤ most
    · have HC := HS.out wr hb x hx1 hle
      obtain ⟨y, hy⟩ : ∃ y, ask x = y := ⟨_, rfl⟩
      have HY : Hid (ask x = y) := hy
      rw [hy] at HC
      clear hy hb
      by_cases hxy : y = x
      · subst hxy
        go_wp2_with (go_at_call 27; refine HC.mono ?_; rintro r w5 ⟨rfl, hb5⟩)
        refine bodyPost_ret (settle_ends rfl rfl) rfl ?_
        have e : wOf ask 0 most = y + 0 := wOf_hit (Int.le_refl _) hx1 (by omega) HY.out fun v hv1 hv2 => HX.out.2 v hv1 hv2 (by omega)
        rw [HT.out] at e
        refine ⟨?_, below_seq HB.out hb5⟩
        rw [decide_eq_true (show tot ≠ 0 by omega), show tot = y by omega]
        rfl
      · have hb1 : (y == x) = false := beq_eq_false_iff_ne.2 hxy
        go_wp2_with (go_at_call 27; refine HC.mono ?_; rintro r w5 ⟨rfl, hb5⟩)
        have g1 := HX.out.1 hle
        have g2 := HY.out
        refine ⟨⟨y, rfl, below_seq HB.out hb5, by omega, fun hy => ?_, fun v hv1 hv2 hv3 he => ?_⟩, ?_⟩
        · have := HM.out.1 x y hx1 (by omega) hy
          omega
        · by_cases hvx : v < x
          · exact HX.out.2 v hv1 hvx hv3 he
          · have := HM.out.1 x v hx1 (by omega) hv3
            omega
        · simp [intOf]
          omega
    · go_wp2_with fail
      refine bodyPost_ret (settle_ends rfl rfl) rfl ?_
      have e : wOf ask 0 most = 0 := wOf_none fun v hv1 hv2 => HX.out.2 v hv1 (by omega) (by omega)
      rw [HT.out] at e
      subst e
      exact ⟨rfl, HB.out⟩
end Go.Proofs.YtekbkcgpjkecbalDoor
namespace Go.Proofs.YtekbkcgpjkecbalDoor
open Go.ChangeShapes Go.WideShapes Go.ChangeAt Go.RowKit

/-- Whatever asks for no more than it is has a number below it that is what it asks for. -/
theorem fix_below {f : Int → Int} (hm : ∀ x y, 1 ≤ x → x ≤ y → f x ≤ f y) (h1 : ∀ x, 1 ≤ x → 1 ≤ f x) : ∀ (n : Nat) (v : Int), v = (n : Int) → 1 ≤ v → f v ≤ v → ∃ u, 1 ≤ u ∧ u ≤ v ∧ f u = u := by
  intro n
  induction n using Nat.strongRecOn with
  | _ n ih =>
    intro v hv hv1 hf
    by_cases he : f v = v
    · exact ⟨v, hv1, Int.le_refl _, he⟩
    · have g1 := h1 v hv1
      obtain ⟨u, u1, u2, u3⟩ := ih (f v).toNat (by omega) (f v) (by omega) g1 (hm (f v) v g1 hf)
      exact ⟨u, u1, by omega, u3⟩

theorem wOf_shift {ask : Int → Int} {jj d : Int} (hj : 0 ≤ jj) : wOf ask jj d = if wOf ask 0 (d - jj) = 0 then 0 else wOf ask 0 (d - jj) + jj := by
  by_cases h : wOf ask 0 (d - jj) = 0
  · rw [if_pos h]
    refine wOf_none fun w h1 h2 he => ?_
    obtain ⟨n, rfl⟩ : ∃ n : Nat, w = (n : Int) := ⟨w.toNat, by omega⟩
    unfold wOf at h
    cases e : (List.range (d - jj + 1).toNat).find? (isFix ask 0 (d - jj)) with
    | none =>
      rw [List.find?_range_eq_none] at e
      have := e n (by omega)
      rw [Bool.not_eq_true', Bool.eq_false_iff] at this
      exact this (isFix_iff.2 ⟨by omega, by omega, he⟩)
    | some k =>
      rw [e] at h
      rw [List.find?_range_eq_some] at e
      have := (isFix_iff.1 e.1).1
      have h' : ((k : Int) + 0) = 0 := h
      omega
  · rw [if_neg h]
    obtain ⟨w, h1, h2, h3, h4, h5⟩ := wOf_some h
    rw [h5, wOf_hit hj h1 (by omega) h3 h4]
    omega

def rdF (l : List Ta) (i gap sp : Int) : Int × (Int × Int) :=
  if (responseF l i 0).2.1 ≠ 0 then (0, (responseF l i 0).2)
  else if within gap 1 20000 = false ∨ within sp 0 10000 = false then (0, (3, 0))
  else if wOf (askR l i.toNat gap sp) (Tk l i.toNat).j (Tk l i.toNat).d = 0 then (0, (13, i)) else (wOf (askR l i.toNat gap sp) (Tk l i.toNat).j (Tk l i.toNat).d, (0, 0))

/-- What is known where nothing is wrong without faults. -/
theorem rd_start {l : List Ta} {i : Int} (h : (responseF l i 0).2.1 = 0) : ∃ (n : Nat) (w0 : Int), i = (n : Int) ∧ n < l.length ∧ (chkX l).1 = 0 ∧ 1 ≤ w0 ∧ w0 + (Tk l n).j ≤ (Tk l n).d ∧ responseF l i 0 = (w0 + (Tk l n).j, (0, 0)) ∧ askF (Tk l n).c (othF (aheadP l n) n l 0) w0 = w0 ∧ ∀ v, 1 ≤ v → v < w0 → askF (Tk l n).c (othF (aheadP l n) n l 0) v ≠ v := by
  unfold responseF at h ⊢
  by_cases h0 : (chkX l).1 ≠ 0
  · rw [if_pos h0] at h; exact absurd h h0
  rw [if_neg h0] at h ⊢
  unfold respF at h ⊢
  by_cases h1 : i < 0 ∨ (l.length : Int) ≤ i ∨ (0 : Int) < 0 ∨ (10000 : Int) < 0
  · rw [if_pos h1] at h; cases h
  rw [if_neg h1] at h ⊢
  by_cases h2 : respR l i.toNat 0 = 0
  · rw [if_pos h2] at h; cases h
  rw [if_neg h2]
  have hn : i = (i.toNat : Int) := by omega
  obtain ⟨w, g1, g2, g3, g4, g5⟩ := wOf_some (show wOf _ _ _ ≠ 0 from h2)
  rw [Int.add_zero] at g3 g4 g5
  have e : respR l i.toNat 0 = w + (Tk l i.toNat).j := by
    show wOf (askF ((Tk l i.toNat).c + 0) _) _ _ = _
    rw [Int.add_zero]
    exact g5
  exact ⟨i.toNat, w, hn, by omega, by omega, g1, g2, by rw [e], g3, g4⟩

theorem askR_no {l : List Ta} {n : Nat} {gap sp w0 : Int} (hs : ∀ x ∈ l, stands x = true) (hn : n < l.length) (hg : 1 ≤ gap) (h0 : 0 ≤ sp) (hw : ∀ v, 1 ≤ v → v < w0 → askF (Tk l n).c (othF (aheadP l n) n l 0) v ≠ v) : ∀ v, 1 ≤ v → v < w0 → askR l n gap sp v ≠ v := by
  intro v v1 v2 he
  have hso : ∀ x ∈ othF (aheadP l n) n l 0, stands x = true := fun x hx => hs x (othF_mem l 0 x hx)
  have hc := stands_t (stands_mem hs hn)
  have hl := lossF_range (p := (Tk l n).p) hs h0
  have hp : 0 ≤ (v + gap - 1) / gap * lossF l (Tk l n).p sp := Int.mul_nonneg (Int.ediv_nonneg (by omega) (by omega)) hl.1
  have hpos : ∀ x, 1 ≤ x → 1 ≤ askF (Tk l n).c (othF (aheadP l n) n l 0) x := fun x hx => by
    have : 0 ≤ sumO x (othF (aheadP l n) n l 0) := by
      clear hw he
      generalize othF (aheadP l n) n l 0 = r at hso
      induction r with
      | nil => exact Int.le_refl _
      | cons y r ih =>
        have a1 := stands_t (hso y List.mem_cons_self)
        have a2 := ih (fun z hz => hso z (List.mem_cons_of_mem _ hz))
        have a3 : 0 ≤ up1 x y := by
          unfold up1
          exact Int.mul_nonneg (Int.ediv_nonneg (by omega) (by omega)) (by omega)
        rw [sumO]; omega
    unfold askF
    omega
  obtain ⟨u, u1, u2, u3⟩ := fix_below (f := askF (Tk l n).c (othF (aheadP l n) n l 0)) (fun x y _ hxy => by
    have := sumO_mono hxy (othF (aheadP l n) n l 0) hso
    unfold askF
    omega) hpos v.toNat v (by omega) v1 (by unfold askR at he; omega)
  exact hw u u1 (by omega) u3

/-- Three boxes and a block for a fault. -/
structure BR (w W : World) (v : Value) (i gap : Int) : Prop where
  bel : Below w.heap.size w W
  b0 : W.heap[w.heap.size]? = some (.cells #[v] 22 (0, 0))
  b1 : W.heap[w.heap.size + 1]? = some (.cells #[.int .i64 i] 3 (0, 0))
  b2 : W.heap[w.heap.size + 1 + 1]? = some (.cells #[.int .i64 gap] 3 (0, 0))
  res : W.heap[w.heap.size + 1 + 1 + 1]? = some (.cells #[.int .i64 0, .int .i64 0] 30 (0, 0))

theorem hlt {W : World} {g : Nat} {o : Obj} (h : W.heap[g]? = some o) : g < W.heap.size := (Array.getElem?_eq_some_iff.1 h).1

theorem BR.start (w : World) (v : Value) (i gap : Int) : BR w ((((w.alloc (.cells #[v] 22)).alloc (.cells #[.int .i64 i] 3)).alloc (.cells #[.int .i64 gap] 3)).alloc (.cells #[.int .i64 0, .int .i64 0] 30)) v i gap := by
  refine ⟨below_seq (below_seq (below_seq (below_new _ _) (below_new _ _)) (below_new _ _)) (below_new _ _), ?_, ?_, ?_, ?_⟩
  · rw [Below.heap_alloc _ _ _ (by first | (simp; done) | (simp; omega)), Below.heap_alloc _ _ _ (by first | (simp; done) | (simp; omega)), Below.heap_alloc _ _ _ (by simp)]
    exact heap_alloc_new _ _
  · rw [Below.heap_alloc _ _ _ (by first | (simp; done) | (simp; omega)), Below.heap_alloc _ _ _ (by simp)]
    exact heap_new2 _ _ _
  · rw [Below.heap_alloc _ _ _ (by simp)]
    exact heap_new3 _ _ _ _
  · have := heap_new3 (w.alloc (.cells #[v] 22)) (.cells #[.int .i64 i] 3) (.cells #[.int .i64 gap] 3) (.cells #[.int .i64 0, .int .i64 0] 30)
    rw [show (w.alloc (.cells #[v] 22)).heap.size = w.heap.size + 1 by simp] at this
    exact this

theorem BR.grow {w W W' : World} {v : Value} {i gap : Int} (h : BR w W v i gap) (hb : Below W.heap.size W W') : BR w W' v i gap :=
  ⟨below_seq h.bel hb, (hb.block _ (hlt h.b0)).trans h.b0, (hb.block _ (hlt h.b1)).trans h.b1, (hb.block _ (hlt h.b2)).trans h.b2, (hb.block _ (hlt h.res)).trans h.res⟩

theorem BR.set {w W : World} {v : Value} {i gap : Int} (h : BR w W v i gap) (a b : Value) : ((W.setCell ⟨w.heap.size + 1 + 1 + 1, 0, none⟩ a).setCell ⟨w.heap.size + 1 + 1 + 1, 1, none⟩ b).heap[w.heap.size + 1 + 1 + 1]? = some (.cells #[a, b] 30 (0, 0)) ∧ Below w.heap.size w ((W.setCell ⟨w.heap.size + 1 + 1 + 1, 0, none⟩ a).setCell ⟨w.heap.size + 1 + 1 + 1, 1, none⟩ b) :=
  ⟨set_two h.res, (h.bel.setCell (show w.heap.size ≤ w.heap.size + 1 + 1 + 1 by omega) _).setCell (show w.heap.size ≤ w.heap.size + 1 + 1 + 1 by omega) _⟩

theorem rd_ends {w : World} {g : Nat} {c k p : Value} {a : Act} (h : w.heap[g]? = some (.cells #[c, k] 30 (0, 0))) (h2 : a.tmps[8]?.getD undef = p) (h3 : a.tmps[9]?.getD undef = .pointer (some ⟨g, 0, none⟩)) :
    (results Tryd.f8 a.tmps).run Tryd.prog w = .ok (.tuple #[p, .agg #[c, k]]) w := by
  obtain ⟨c1, f1, l1⟩ := cells_of (l := [_, _]) h
  have c10 := c1 0 _ rfl
  have c11 := c1 1 _ rfl
  simp [results, Tryd.results8, go_sem, h2, h3, c10, c11]


/-- What is laid of a task's own box and of the loss, in any order. -/
structure R6 (w2 W : World) (a b : Option Nat) (ca : Array Value) : Prop where
  bel : Below w2.heap.size w2 W
  ha : ∀ g, a = some g → W.heap[g]? = some (.cells ca 27 (0, 0)) ∧ w2.heap.size ≤ g
  hb : ∀ g, b = some g → W.heap[g]? = some (.cells #[.int .i64 0] 3 (0, 0)) ∧ w2.heap.size ≤ g
  d : ∀ g h, a = some g → b = some h → g ≠ h

theorem R6.start {w2 W : World} (h : Below w2.heap.size w2 W) (ca : Array Value) : R6 w2 W none none ca := ⟨h, nofun, nofun, nofun⟩

theorem R6.grow {w2 W W' : World} {a b : Option Nat} {ca : Array Value} (h : R6 w2 W a b ca) (hb : Below W.heap.size W W') : R6 w2 W' a b ca :=
  ⟨below_seq h.bel hb, fun g e => ⟨(hb.block g (hlt (h.ha g e).1)).trans (h.ha g e).1, (h.ha g e).2⟩, fun g e => ⟨(hb.block g (hlt (h.hb g e).1)).trans (h.hb g e).1, (h.hb g e).2⟩, h.d⟩

theorem R6.addA {w2 W : World} {b : Option Nat} {ca : Array Value} (h : R6 w2 W none b ca) : R6 w2 (W.alloc (.cells #[.string ⟨#[]⟩, .int .i64 0, .int .i64 0, .int .i64 0, .int .i64 0, .int .i64 0, .int .i64 0] 27)) (some W.heap.size) b #[.string ⟨#[]⟩, .int .i64 0, .int .i64 0, .int .i64 0, .int .i64 0, .int .i64 0, .int .i64 0] := by
  have h' := h.grow (below_new W (.cells #[.string ⟨#[]⟩, .int .i64 0, .int .i64 0, .int .i64 0, .int .i64 0, .int .i64 0, .int .i64 0] 27))
  have hs := h.bel.size
  exact ⟨h'.bel, fun g e => by cases e; exact ⟨heap_alloc_new _ _, hs⟩, h'.hb, fun g x e e' => by cases e; have := hlt (h.hb x e').1; omega⟩

theorem R6.addB {w2 W : World} {a : Option Nat} {ca : Array Value} (h : R6 w2 W a none ca) : R6 w2 (W.alloc (.cells #[.int .i64 0] 3)) a (some W.heap.size) ca := by
  have h' := h.grow (below_new W (.cells #[.int .i64 0] 3))
  have hs := h.bel.size
  exact ⟨h'.bel, h'.ha, fun g e => by cases e; exact ⟨heap_alloc_new _ _, hs⟩, fun g x e e' => by cases e'; have := hlt (h.ha g e).1; omega⟩

theorem R6.putA {w2 W : World} {g : Nat} {b : Option Nat} (h : R6 w2 W (some g) b #[.string ⟨#[]⟩, .int .i64 0, .int .i64 0, .int .i64 0, .int .i64 0, .int .i64 0, .int .i64 0]) (v0 v1 v2 v3 v4 v5 v6 : Value) : R6 w2 (((((((W.setCell ⟨g, 0, none⟩ v0).setCell ⟨g, 1, none⟩ v1).setCell ⟨g, 2, none⟩ v2).setCell ⟨g, 3, none⟩ v3).setCell ⟨g, 4, none⟩ v4).setCell ⟨g, 5, none⟩ v5).setCell ⟨g, 6, none⟩ v6) (some g) b #[v0, v1, v2, v3, v4, v5, v6] := by
  have hg := (h.ha g rfl).2
  refine ⟨((((((h.bel.setCell hg _).setCell hg _).setCell hg _).setCell hg _).setCell hg _).setCell hg _).setCell hg _, fun q e => ?_, fun q e => ?_, h.d⟩
  · cases e
    refine ⟨?_, hg⟩
    rw [setCell_at (setCell_at (setCell_at (setCell_at (setCell_at (setCell_at (setCell_at (h.ha g rfl).1))))))]
    rfl
  · have hne : q ≠ g := Ne.symm (h.d g q rfl e)
    refine ⟨?_, (h.hb q e).2⟩
    rw [Below.heap_setCell _ _ _ _ hne, Below.heap_setCell _ _ _ _ hne, Below.heap_setCell _ _ _ _ hne, Below.heap_setCell _ _ _ _ hne, Below.heap_setCell _ _ _ _ hne, Below.heap_setCell _ _ _ _ hne, Below.heap_setCell _ _ _ _ hne]
    exact (h.hb q e).1

theorem R6.putB {w2 W : World} {g q : Nat} {ca : Array Value} (h : R6 w2 W (some g) (some q) ca) (u : Value) : Below w2.heap.size w2 (W.setCell ⟨q, 0, none⟩ u) ∧ (W.setCell ⟨q, 0, none⟩ u).heap[g]? = some (.cells ca 27 (0, 0)) ∧ (W.setCell ⟨q, 0, none⟩ u).heap[q]? = some (.cells #[u] 3 (0, 0)) := by
  refine ⟨h.bel.setCell (h.hb q rfl).2 _, ?_, ?_⟩
  · rw [Below.heap_setCell _ _ _ _ (h.d g q rfl rfl)]; exact (h.ha g rfl).1
  · rw [setCell_at (h.hb q rfl).1]; rfl

set_option maxRecDepth 20000 in
set_option maxHeartbeats 4000000 in
theorem rd_any (w : World) (l : List Ta) (v : Value) (i gap sp : Int) (hl : l.length ≤ 1000000) (hv : RowSl Ta.vals w l v) :
    Calls Tryd.prog 8 #[v, .int .i64 i, .int .i64 gap, .int .i64 sp] w fun r w' => r = .returned (.tuple #[.int .i64 (rdF l i gap sp).1, .agg #[.int .i64 (rdF l i gap sp).2.1, .int .i64 (rdF l i gap sp).2.2]]) ∧ Below w.heap.size w w' := by
  have HC := Response_any ((((w.alloc (.cells #[v] 22)).alloc (.cells #[.int .i64 i] 3)).alloc (.cells #[.int .i64 gap] 3)).alloc (.cells #[.int .i64 0, .int .i64 0] 30)) l v i 0 hl (hv.below (BR.start w v i gap).bel)
  have HS : Hid (BR w ((((w.alloc (.cells #[v] 22)).alloc (.cells #[.int .i64 i] 3)).alloc (.cells #[.int .i64 gap] 3)).alloc (.cells #[.int .i64 0, .int .i64 0] 30)) v i gap ∧ RowSl Ta.vals w l v) := ⟨BR.start w v i gap, hv⟩
  obtain ⟨ad, c, rfl⟩ := hv.len
  clear hv
  obtain ⟨a1, z1, z2, hz⟩ : ∃ a1 z1 z2, responseF l i 0 = (a1, (z1, z2)) := ⟨_, _, _, rfl⟩
  obtain ⟨y0, y1, y2, hy⟩ : ∃ y0 y1 y2, rdF l i gap sp = (y0, (y1, y2)) := ⟨_, _, _, rfl⟩
  have HY : Hid (rdF l i gap sp = (y0, (y1, y2))) := hy
  have HZ : Hid (responseF l i 0 = (a1, (z1, z2))) := hz
  rw [hz] at HC
  rw [hy]
  dsimp only at HC ⊢
  clear hz hy
  go_enter Tryd.func8, Tryd.ntmps8
  go_upto_region 2 with (go_at_call 22; refine HC.mono ?_; rintro r w1 ⟨rfl, hb1⟩; have H2 : Hid (BR w (w1.alloc (.cells #[.int .i64 z1, .int .i64 z2] 30)) (.slice ad l.length c) i gap) := (HS.out.1.grow hb1).grow (below_new _ _); have hl3 : w.heap.size + 1 + 1 + 1 < w1.heap.size := hlt (HS.out.1.grow hb1).res; clear hb1 HC)
  obtain ⟨gs, -, gl⟩ := cells_of (l := [_, _]) (heap_alloc_new w1 (.cells #[.int .i64 z1, .int .i64 z2] 30))
  have g0 := gs 0 _ rfl
  have g1 := gs 1 _ rfl
  clear gs
  generalize w1.alloc (.cells #[.int .i64 z1, .int .i64 z2] 30) = w2 at *
  obtain ⟨rs, rf, rl⟩ := cells_of (l := [_, _]) H2.out.res; have r0 := rs 0 _ rfl; have r1 := rs 1 _ rfl; have rf0 := rf 0; have rf1 := rf 1; clear rs rf
  by_cases h0 : z1 = 0
  rotate_left 1
  · have hzb : (z1 != 0) = true := by simpa using h0
    go_upto_region 3 with fail
    go_region
    all_goals go_wp2_with fail
    all_goals
      have hx := H2.out.set (.int .i64 z1) (.int .i64 z2)
      refine bodyPost_ret (rd_ends hx.1 rfl rfl) rfl ?_
      have e := HY.out
      unfold rdF at e
      rw [HZ.out, if_pos h0] at e
      simp at e
      obtain ⟨e1, e2, e3⟩ := e
      subst e1 e2 e3
      exact ⟨rfl, hx.2.drew⟩
  subst h0
  obtain ⟨n, w0, hin, hn, hX, hw0, hwd, hres, hask, hleast⟩ := rd_start (l := l) (i := i) (by rw [HZ.out])
  subst hin
  obtain ⟨-, hDT, -, hl8, hst, -⟩ := chkX_ok hX
  have ea : a1 = w0 + (Tk l n).j ∧ z2 = 0 := by
    have e := HZ.out
    rw [hres] at e
    simp at e
    exact ⟨e.1.symm, e.2.symm⟩
  obtain ⟨rfl, rfl⟩ := ea
  have hbx2 := (cells_of (l := [_]) H2.out.b2).1 0 _ rfl
  have HZ0 : Hid ((responseF l (n : Int) 0).2.1 = 0) := by
    have e : (responseF l (n : Int) 0).2.1 = 0 := by rw [HZ.out]
    exact e
  cases hw1 : within gap 1 20000 with
  | false =>
    go_wp2_with (first | (go_at_call 24; refine (isStep_any _ _).mono ?_; rintro r w3 ⟨rfl, hw3⟩; have hw4 := hw3.symm; subst hw4; clear hw3; rw [hw2]) | (go_at_call 23; refine (rwithin_any _ _ _ _).mono ?_; rintro r w3 ⟨rfl, hw3⟩; have hw4 := hw3.symm; subst hw4; clear hw3; rw [hw1]))
    all_goals
      have hx := H2.out.set (.int .i64 3) (.int .i64 0)
      refine bodyPost_ret (rd_ends hx.1 rfl rfl) rfl ?_
      have e := HY.out
      unfold rdF at e
      rw [if_neg (by rw [HZ0.out]; simp), if_pos (.inl hw1)] at e
      simp at e
      obtain ⟨e1, e2, e3⟩ := e
      subst e1 e2 e3
      exact ⟨rfl, hx.2⟩
  | true =>
  cases hw2 : within sp 0 10000 with
  | false =>
    go_wp2_with (first | (go_at_call 24; refine (isStep_any _ _).mono ?_; rintro r w3 ⟨rfl, hw3⟩; have hw4 := hw3.symm; subst hw4; clear hw3; rw [hw2]) | (go_at_call 23; refine (rwithin_any _ _ _ _).mono ?_; rintro r w3 ⟨rfl, hw3⟩; have hw4 := hw3.symm; subst hw4; clear hw3; rw [hw1]))
    all_goals
      have hx := H2.out.set (.int .i64 3) (.int .i64 0)
      refine bodyPost_ret (rd_ends hx.1 rfl rfl) rfl ?_
      have e := HY.out
      unfold rdF at e
      rw [if_neg (by rw [HZ0.out]; simp), if_pos (.inr hw2)] at e
      simp at e
      obtain ⟨e1, e2, e3⟩ := e
      subst e1 e2 e3
      exact ⟨rfl, hx.2⟩
  | true =>
  have hgp : 1 ≤ gap ∧ gap ≤ 20000 := by unfold within at hw1; simpa using hw1
  have hsp : 0 ≤ sp ∧ sp ≤ 10000 := by unfold within at hw2; simpa using hw2
  have HW : Hid (within gap 1 20000 = true ∧ within sp 0 10000 = true) := ⟨hw1, hw2⟩
  go_upto_region 6 with (first | (go_at_call 24; refine (isStep_any _ _).mono ?_; rintro r w3 ⟨rfl, hw3⟩; have hw4 := hw3.symm; subst hw4; clear hw3; rw [hw2]) | (go_at_call 23; refine (rwithin_any _ _ _ _).mono ?_; rintro r w3 ⟨rfl, hw3⟩; have hw4 := hw3.symm; subst hw4; clear hw3; rw [hw1]))
  clear hw1 hw2
  have hbx0 := (cells_of (l := [_]) H2.out.b0).1 0 _ rfl
  have hbx1 := (cells_of (l := [_]) H2.out.b1).1 0 _ rfl
  have HV2 : RowSl Ta.vals w2 l (.slice ad l.length c) := HS.out.2.below H2.out.bel
  obtain ⟨ad9, c9, e9, -, hcap9, hrow9⟩ := HV2
  cases e9
  rcases hrow9 with h | ⟨b, o, rfl, hrow⟩
  · rw [h] at hn; simp at hn
  obtain ⟨t0, t1, t2, t3, t4, t5, t6⟩ := ta_at hrow (Tk_get hn)
  have hni : (n : Int) < (l.length : Int) := by omega
  have lb : b < w2.heap.size := World.block_lt_of_cell? _ _ t0
  have HL : Hid (∀ W, Below w2.heap.size w2 W → Calls Tryd.prog 25 #[.slice (some ⟨b, o, none⟩) l.length c, .int .i64 (Tk l n).p, .int .i64 sp] W fun r w' => r = .returned (.int .i64 (lossF l (Tk l n).p sp)) ∧ Below W.heap.size W w') := fun W hb => loss_any W l (Tk l n).p sp _ hl8 ((HS.out.2.below H2.out.bel).below hb)
  have HP : Hid ((chkX l).1 = 0 ∧ (∀ x ∈ l, stands x = true) ∧ l.length ≤ 8 ∧ askF (Tk l n).c (othF (aheadP l n) n l 0) w0 = w0 ∧ (∀ v, 1 ≤ v → v < w0 → askF (Tk l n).c (othF (aheadP l n) n l 0) v ≠ v) ∧ RowSl Ta.vals w l (.slice (some ⟨b, o, none⟩) l.length c)) := ⟨hX, hst, hl8, hask, hleast, HS.out.2⟩
  obtain ⟨j1, j2, j3, j4, j5, j6, j7, j8, -, -⟩ := stands_t (stands_mem hst hn)
  have EX : Hid (∃ x, Tk l n = x) := ⟨_, rfl⟩
  clear hrow hX hst hask hleast HS hDT hres
  generalize hx : Tk l n = x at *
  have HTk : Hid (Tk l n = x) := hx
  clear hx EX
  obtain ⟨xn, xc, xt, xd, xj, xo, xp⟩ := x
  dsimp only at *
  go_cut [12, 13] from 35 to 46 (fun va vb wc => ∃ ga gb, va = .pointer (some ⟨ga, 0, none⟩) ∧ vb = .pointer (some ⟨gb, 0, none⟩) ∧ Below w2.heap.size w2 wc ∧ wc.heap[ga]? = some (.cells #[.string xn, .int .i64 xc, .int .i64 xt, .int .i64 xd, .int .i64 xj, .int .i64 xo, .int .i64 xp] 27 (0, 0)) ∧ wc.heap[gb]? = some (.cells #[.int .i64 (lossF l xp sp)] 3 (0, 0)))
  case first =>
    have hS0 : (fun w' : World => Below w2.heap.size w2 w') w2.drew := (Below.refl _ _).drew
    have hX : Hid (R6 w2 w2.drew none none #[.string ⟨#[]⟩, .int .i64 0, .int .i64 0, .int .i64 0, .int .i64 0, .int .i64 0, .int .i64 0]) := R6.start (Below.refl _ _).drew _
    refine wp_region_noPanic ?_
    refine wp_region_held_drew (S := fun w' => Below w2.heap.size w2 w') (by kernel_rfl) hS0 (fun hHeld => ?_)
    refine take_at (i := 0) (n := 35) (v := ?_) rfl rfl (by kernel_rfl) (by kernel_rfl) (by kernel_rfl) (fun _ _ _ h => h) (Or.inl ⟨by rfl, ?_⟩) (by assumption) ?_
    rotate_left 1
    · intro wz hSw
      have k0 := below_cell hSw hbx0; have k1 := below_cell hSw hbx1; have u0 := below_cell hSw t0; have u1 := below_cell hSw t1; have u2 := below_cell hSw t2; have u3 := below_cell hSw t3; have u4 := below_cell hSw t4; have u5 := below_cell hSw t5; have u6 := below_cell hSw t6
      first | (go_simp; done) | (go_simp; with_reducible rfl)
    simp only [List.set_cons_zero, List.set_cons_succ]
    refine take_at (i := 1) (n := 36) (v := ?_) rfl rfl (by kernel_rfl) (by kernel_rfl) (by kernel_rfl) (fun _ _ _ h => h) (Or.inl ⟨by rfl, ?_⟩) (by assumption) ?_
    rotate_left 1
    · intro wz hSw
      have k0 := below_cell hSw hbx0; have k1 := below_cell hSw hbx1; have u0 := below_cell hSw t0; have u1 := below_cell hSw t1; have u2 := below_cell hSw t2; have u3 := below_cell hSw t3; have u4 := below_cell hSw t4; have u5 := below_cell hSw t5; have u6 := below_cell hSw t6
      first | (go_simp; done) | (go_simp; with_reducible rfl)
    simp only [List.set_cons_zero, List.set_cons_succ]
    refine take_at (i := 2) (n := 37) (v := ?_) rfl rfl (by kernel_rfl) (by kernel_rfl) (by kernel_rfl) (fun _ _ _ h => h) (Or.inl ⟨by rfl, ?_⟩) (by assumption) ?_
    rotate_left 1
    · intro wz hSw
      have k0 := below_cell hSw hbx0; have k1 := below_cell hSw hbx1; have u0 := below_cell hSw t0; have u1 := below_cell hSw t1; have u2 := below_cell hSw t2; have u3 := below_cell hSw t3; have u4 := below_cell hSw t4; have u5 := below_cell hSw t5; have u6 := below_cell hSw t6
      first | (go_simp; done) | (go_simp; with_reducible rfl)
    simp only [List.set_cons_zero, List.set_cons_succ]
    refine take_at (i := 3) (n := 38) (v := ?_) rfl rfl (by kernel_rfl) (by kernel_rfl) (by kernel_rfl) (fun _ _ _ h => h) (Or.inl ⟨by rfl, ?_⟩) (by assumption) ?_
    rotate_left 1
    · intro wz hSw
      have k0 := below_cell hSw hbx0; have k1 := below_cell hSw hbx1; have u0 := below_cell hSw t0; have u1 := below_cell hSw t1; have u2 := below_cell hSw t2; have u3 := below_cell hSw t3; have u4 := below_cell hSw t4; have u5 := below_cell hSw t5; have u6 := below_cell hSw t6
      first | (go_simp; done) | (go_simp; with_reducible rfl)
    simp only [List.set_cons_zero, List.set_cons_succ]
    refine take_at (i := 4) (n := 39) (v := ?_) rfl rfl (by kernel_rfl) (by kernel_rfl) (by kernel_rfl) (fun _ _ _ h => h) (Or.inl ⟨by rfl, ?_⟩) (by assumption) ?_
    rotate_left 1
    · intro wz hSw
      have k0 := below_cell hSw hbx0; have k1 := below_cell hSw hbx1; have u0 := below_cell hSw t0; have u1 := below_cell hSw t1; have u2 := below_cell hSw t2; have u3 := below_cell hSw t3; have u4 := below_cell hSw t4; have u5 := below_cell hSw t5; have u6 := below_cell hSw t6
      first | (go_simp; done) | (go_simp; with_reducible rfl)
    simp only [List.set_cons_zero, List.set_cons_succ]
    refine take_at (i := 5) (n := 40) (v := ?_) rfl rfl (by kernel_rfl) (by kernel_rfl) (by kernel_rfl) (fun _ _ _ h => h) (Or.inl ⟨by rfl, ?_⟩) (by assumption) ?_
    rotate_left 1
    · intro wz hSw
      have k0 := below_cell hSw hbx0; have k1 := below_cell hSw hbx1; have u0 := below_cell hSw t0; have u1 := below_cell hSw t1; have u2 := below_cell hSw t2; have u3 := below_cell hSw t3; have u4 := below_cell hSw t4; have u5 := below_cell hSw t5; have u6 := below_cell hSw t6
      first | (go_simp; done) | (go_simp; with_reducible rfl)
    simp only [List.set_cons_zero, List.set_cons_succ]
    refine take_at (i := 6) (n := 41) (v := ?_) rfl rfl (by kernel_rfl) (by kernel_rfl) (by kernel_rfl) (fun _ _ _ h => h) (Or.inl ⟨by rfl, ?_⟩) (by assumption) ?_
    rotate_left 1
    · intro wz hSw
      have k0 := below_cell hSw hbx0; have k1 := below_cell hSw hbx1; have u0 := below_cell hSw t0; have u1 := below_cell hSw t1; have u2 := below_cell hSw t2; have u3 := below_cell hSw t3; have u4 := below_cell hSw t4; have u5 := below_cell hSw t5; have u6 := below_cell hSw t6
      first | (go_simp; done) | (go_simp; with_reducible rfl)
    simp only [List.set_cons_zero, List.set_cons_succ]
    refine take_at (i := 7) (n := 42) (v := ?_) rfl rfl (by kernel_rfl) (by kernel_rfl) (by kernel_rfl) (fun _ _ _ h => h) (Or.inl ⟨by rfl, ?_⟩) (by assumption) ?_
    rotate_left 1
    · intro wz hSw
      have k0 := below_cell hSw hbx0; have k1 := below_cell hSw hbx1; have u0 := below_cell hSw t0; have u1 := below_cell hSw t1; have u2 := below_cell hSw t2; have u3 := below_cell hSw t3; have u4 := below_cell hSw t4; have u5 := below_cell hSw t5; have u6 := below_cell hSw t6
      first | (go_simp; done) | (go_simp; with_reducible rfl)
    simp only [List.set_cons_zero, List.set_cons_succ]
    refine take_at (i := 8) (n := 43) (v := ?_) rfl rfl (by kernel_rfl) (by kernel_rfl) (by kernel_rfl) (fun _ _ _ h => h) (Or.inl ⟨by rfl, ?_⟩) (by assumption) ?_
    rotate_left 1
    · intro wz hSw
      have k0 := below_cell hSw hbx0; have k1 := below_cell hSw hbx1; have u0 := below_cell hSw t0; have u1 := below_cell hSw t1; have u2 := below_cell hSw t2; have u3 := below_cell hSw t3; have u4 := below_cell hSw t4; have u5 := below_cell hSw t5; have u6 := below_cell hSw t6
      first | (go_simp; done) | (go_simp; with_reducible rfl)
    simp only [List.set_cons_zero, List.set_cons_succ]
    refine take_at (i := 9) (n := 44) (v := ?_) rfl rfl (by kernel_rfl) (by kernel_rfl) (by kernel_rfl) (fun _ _ _ h => h) (Or.inl ⟨by rfl, ?_⟩) (by assumption) ?_
    rotate_left 1
    · intro wz hSw
      have k0 := below_cell hSw hbx0; have k1 := below_cell hSw hbx1; have u0 := below_cell hSw t0; have u1 := below_cell hSw t1; have u2 := below_cell hSw t2; have u3 := below_cell hSw t3; have u4 := below_cell hSw t4; have u5 := below_cell hSw t5; have u6 := below_cell hSw t6
      first | (go_simp; done) | (go_simp; with_reducible rfl)
    simp only [List.set_cons_zero, List.set_cons_succ]
    refine take_at (i := 10) (n := 45) (v := ?_) rfl rfl (by kernel_rfl) (by kernel_rfl) (by kernel_rfl) (fun _ _ _ h => h) (Or.inl ⟨by rfl, ?_⟩) (by assumption) ?_
    rotate_left 1
    · intro wz hSw
      have k0 := below_cell hSw hbx0; have k1 := below_cell hSw hbx1; have u0 := below_cell hSw t0; have u1 := below_cell hSw t1; have u2 := below_cell hSw t2; have u3 := below_cell hSw t3; have u4 := below_cell hSw t4; have u5 := below_cell hSw t5; have u6 := below_cell hSw t6
      first | (go_simp; done) | (go_simp; with_reducible rfl)
    simp only [List.set_cons_zero, List.set_cons_succ]
    clear hS0 t0 t1 t2 t3 t4 t5 t6 hbx0 hbx1 hbx2
    generalize w2.drew = W0 at *
    refine wpAnyH_ready (rs := [11, 12, 13]) (by kernel_rfl) (by simp) ?_
    refine AllReadyH.cons rfl (fun K' hK' => ?_) (AllReadyH.cons rfl (fun K' hK' => ?_) (AllReadyH.cons rfl (fun K' hK' => ?_) (AllReadyH.nil)))
    · skip
      go_simp
      go_wp2_with (go_at_call 25; refine (HL.out W0 hX.out.bel).mono ?_; rintro r wn1 ⟨rfl, hb9⟩)
      have hY := hX.out.grow hb9
      refine hK'.out _ _ hY.bel (fun hHeld => ?_)
      clear hK' K' hX
      have hX : Hid (R6 w2 wn1 none none #[.string ⟨#[]⟩, .int .i64 0, .int .i64 0, .int .i64 0, .int .i64 0, .int .i64 0, .int .i64 0]) := hY
      clear hY
      refine wpAnyH_ready (rs := [12, 13]) (by kernel_rfl) (by simp) ?_
      refine AllReadyH.cons rfl (fun K' hK' => ?_) (AllReadyH.cons rfl (fun K' hK' => ?_) (AllReadyH.nil))
      · skip
        have hY := hX.out.addA
        go_simp
        generalize wn1.alloc (.cells #[.string ⟨#[]⟩, .int .i64 0, .int .i64 0, .int .i64 0, .int .i64 0, .int .i64 0, .int .i64 0] 27) = wn2 at hY ⊢
        refine hK'.out _ _ hY.bel (fun hHeld => ?_)
        clear hK' K' hX
        have hX : Hid (R6 w2 wn2 (some (wn1.heap.size)) none #[.string ⟨#[]⟩, .int .i64 0, .int .i64 0, .int .i64 0, .int .i64 0, .int .i64 0, .int .i64 0]) := hY
        clear hY
        refine wpAnyH_ready (rs := [13]) (by kernel_rfl) (by simp) ?_
        refine AllReadyH.cons rfl (fun K' hK' => ?_) (AllReadyH.nil)
        · skip
          have hY := hX.out.addB
          go_simp
          generalize wn2.alloc (.cells #[.int .i64 0] 3) = wn3 at hY ⊢
          refine hK'.out _ _ hY.bel (fun hHeld => ?_)
          clear hK' K' hX
          have hX : Hid (R6 w2 wn3 (some (wn1.heap.size)) (some (wn2.heap.size)) #[.string ⟨#[]⟩, .int .i64 0, .int .i64 0, .int .i64 0, .int .i64 0, .int .i64 0, .int .i64 0]) := hY
          clear hY
          refine wpAnyH_ready (rs := [14]) (by kernel_rfl) (by simp) ?_
          refine AllReadyH.cons rfl (fun K' hK' => ?_) (AllReadyH.nil)
          · skip
            obtain ⟨qs, qf, ql⟩ := cells_of (l := [_, _, _, _, _, _, _]) (hX.out.ha _ rfl).1
            have q0 := qs 0 _ rfl
            have q1 := qs 1 _ rfl
            have q2 := qs 2 _ rfl
            have q3 := qs 3 _ rfl
            have q4 := qs 4 _ rfl
            have q5 := qs 5 _ rfl
            have q6 := qs 6 _ rfl
            have qf0 := qf 0
            have qf1 := qf 1
            have qf2 := qf 2
            have qf3 := qf 3
            have qf4 := qf 4
            have qf5 := qf 5
            have qf6 := qf 6
            have hY := hX.out.putA (.string xn) (.int .i64 xc) (.int .i64 xt) (.int .i64 xd) (.int .i64 xj) (.int .i64 xo) (.int .i64 xp)
            clear qs qf
            go_simp
            generalize (((((((wn3.setCell ⟨wn1.heap.size, 0, none⟩ (.string xn)).setCell ⟨wn1.heap.size, 1, none⟩ (.int .i64 xc)).setCell ⟨wn1.heap.size, 2, none⟩ (.int .i64 xt)).setCell ⟨wn1.heap.size, 3, none⟩ (.int .i64 xd)).setCell ⟨wn1.heap.size, 4, none⟩ (.int .i64 xj)).setCell ⟨wn1.heap.size, 5, none⟩ (.int .i64 xo)).setCell ⟨wn1.heap.size, 6, none⟩ (.int .i64 xp)) = wn4 at hY ⊢
            clear q0 q1 q2 q3 q4 q5 q6 qf0 qf1 qf2 qf3 qf4 qf5 qf6 ql
            refine hK'.out _ _ hY.bel (fun hHeld => ?_)
            clear hK' K' hX
            have hX : Hid (R6 w2 wn4 (some (wn1.heap.size)) (some (wn2.heap.size)) #[.string xn, .int .i64 xc, .int .i64 xt, .int .i64 xd, .int .i64 xj, .int .i64 xo, .int .i64 xp]) := hY
            clear hY
            obtain ⟨qs, qf, ql⟩ := cells_of (l := [_]) (hX.out.hb _ rfl).1
            have q0 := qs 0 _ rfl
            have qf0 := qf 0
            clear qs qf
            have hY := hX.out.putB (.int .i64 (lossF l xp sp))
            have HYY : Hid _ := hY
            refine wpAnyH_ready (rs := [15]) (by kernel_rfl) (by simp) ?_
            refine AllReadyH.cons rfl (fun K' hK' => ?_) AllReadyH.nil
            go_simp
            refine hK'.out _ _ HYY.out.1 (fun hHeld => ?_)
            clear hK' K' hY
            refine wpAnyH_done (by kernel_rfl) ?_ _
            refine NoPanic.normal ?_
            go_wp2_with fail
            go_meet
            case rel =>
              exact ⟨_, _, rfl, rfl, HYY.out.1, HYY.out.2.1, HYY.out.2.2⟩
      · skip
        have hY := hX.out.addB
        go_simp
        generalize wn1.alloc (.cells #[.int .i64 0] 3) = wn5 at hY ⊢
        refine hK'.out _ _ hY.bel (fun hHeld => ?_)
        clear hK' K' hX
        have hX : Hid (R6 w2 wn5 none (some (wn1.heap.size)) #[.string ⟨#[]⟩, .int .i64 0, .int .i64 0, .int .i64 0, .int .i64 0, .int .i64 0, .int .i64 0]) := hY
        clear hY
        refine wpAnyH_ready (rs := [12]) (by kernel_rfl) (by simp) ?_
        refine AllReadyH.cons rfl (fun K' hK' => ?_) (AllReadyH.nil)
        · skip
          have hY := hX.out.addA
          go_simp
          generalize wn5.alloc (.cells #[.string ⟨#[]⟩, .int .i64 0, .int .i64 0, .int .i64 0, .int .i64 0, .int .i64 0, .int .i64 0] 27) = wn6 at hY ⊢
          refine hK'.out _ _ hY.bel (fun hHeld => ?_)
          clear hK' K' hX
          have hX : Hid (R6 w2 wn6 (some (wn5.heap.size)) (some (wn1.heap.size)) #[.string ⟨#[]⟩, .int .i64 0, .int .i64 0, .int .i64 0, .int .i64 0, .int .i64 0, .int .i64 0]) := hY
          clear hY
          refine wpAnyH_ready (rs := [14]) (by kernel_rfl) (by simp) ?_
          refine AllReadyH.cons rfl (fun K' hK' => ?_) (AllReadyH.nil)
          · skip
            obtain ⟨qs, qf, ql⟩ := cells_of (l := [_, _, _, _, _, _, _]) (hX.out.ha _ rfl).1
            have q0 := qs 0 _ rfl
            have q1 := qs 1 _ rfl
            have q2 := qs 2 _ rfl
            have q3 := qs 3 _ rfl
            have q4 := qs 4 _ rfl
            have q5 := qs 5 _ rfl
            have q6 := qs 6 _ rfl
            have qf0 := qf 0
            have qf1 := qf 1
            have qf2 := qf 2
            have qf3 := qf 3
            have qf4 := qf 4
            have qf5 := qf 5
            have qf6 := qf 6
            have hY := hX.out.putA (.string xn) (.int .i64 xc) (.int .i64 xt) (.int .i64 xd) (.int .i64 xj) (.int .i64 xo) (.int .i64 xp)
            clear qs qf
            go_simp
            generalize (((((((wn6.setCell ⟨wn5.heap.size, 0, none⟩ (.string xn)).setCell ⟨wn5.heap.size, 1, none⟩ (.int .i64 xc)).setCell ⟨wn5.heap.size, 2, none⟩ (.int .i64 xt)).setCell ⟨wn5.heap.size, 3, none⟩ (.int .i64 xd)).setCell ⟨wn5.heap.size, 4, none⟩ (.int .i64 xj)).setCell ⟨wn5.heap.size, 5, none⟩ (.int .i64 xo)).setCell ⟨wn5.heap.size, 6, none⟩ (.int .i64 xp)) = wn7 at hY ⊢
            clear q0 q1 q2 q3 q4 q5 q6 qf0 qf1 qf2 qf3 qf4 qf5 qf6 ql
            refine hK'.out _ _ hY.bel (fun hHeld => ?_)
            clear hK' K' hX
            have hX : Hid (R6 w2 wn7 (some (wn5.heap.size)) (some (wn1.heap.size)) #[.string xn, .int .i64 xc, .int .i64 xt, .int .i64 xd, .int .i64 xj, .int .i64 xo, .int .i64 xp]) := hY
            clear hY
            obtain ⟨qs, qf, ql⟩ := cells_of (l := [_]) (hX.out.hb _ rfl).1
            have q0 := qs 0 _ rfl
            have qf0 := qf 0
            clear qs qf
            have hY := hX.out.putB (.int .i64 (lossF l xp sp))
            have HYY : Hid _ := hY
            refine wpAnyH_ready (rs := [15]) (by kernel_rfl) (by simp) ?_
            refine AllReadyH.cons rfl (fun K' hK' => ?_) AllReadyH.nil
            go_simp
            refine hK'.out _ _ HYY.out.1 (fun hHeld => ?_)
            clear hK' K' hY
            refine wpAnyH_done (by kernel_rfl) ?_ _
            refine NoPanic.normal ?_
            go_wp2_with fail
            go_meet
            case rel =>
              exact ⟨_, _, rfl, rfl, HYY.out.1, HYY.out.2.1, HYY.out.2.2⟩
    · skip
      have hY := hX.out.addA
      go_simp
      generalize W0.alloc (.cells #[.string ⟨#[]⟩, .int .i64 0, .int .i64 0, .int .i64 0, .int .i64 0, .int .i64 0, .int .i64 0] 27) = wn8 at hY ⊢
      refine hK'.out _ _ hY.bel (fun hHeld => ?_)
      clear hK' K' hX
      have hX : Hid (R6 w2 wn8 (some (W0.heap.size)) none #[.string ⟨#[]⟩, .int .i64 0, .int .i64 0, .int .i64 0, .int .i64 0, .int .i64 0, .int .i64 0]) := hY
      clear hY
      refine wpAnyH_ready (rs := [11, 13]) (by kernel_rfl) (by simp) ?_
      refine AllReadyH.cons rfl (fun K' hK' => ?_) (AllReadyH.cons rfl (fun K' hK' => ?_) (AllReadyH.nil))
      · skip
        go_simp
        go_wp2_with (go_at_call 25; refine (HL.out wn8 hX.out.bel).mono ?_; rintro r wn9 ⟨rfl, hb9⟩)
        have hY := hX.out.grow hb9
        refine hK'.out _ _ hY.bel (fun hHeld => ?_)
        clear hK' K' hX
        have hX : Hid (R6 w2 wn9 (some (W0.heap.size)) none #[.string ⟨#[]⟩, .int .i64 0, .int .i64 0, .int .i64 0, .int .i64 0, .int .i64 0, .int .i64 0]) := hY
        clear hY
        refine wpAnyH_ready (rs := [13]) (by kernel_rfl) (by simp) ?_
        refine AllReadyH.cons rfl (fun K' hK' => ?_) (AllReadyH.nil)
        · skip
          have hY := hX.out.addB
          go_simp
          generalize wn9.alloc (.cells #[.int .i64 0] 3) = wn10 at hY ⊢
          refine hK'.out _ _ hY.bel (fun hHeld => ?_)
          clear hK' K' hX
          have hX : Hid (R6 w2 wn10 (some (W0.heap.size)) (some (wn9.heap.size)) #[.string ⟨#[]⟩, .int .i64 0, .int .i64 0, .int .i64 0, .int .i64 0, .int .i64 0, .int .i64 0]) := hY
          clear hY
          refine wpAnyH_ready (rs := [14]) (by kernel_rfl) (by simp) ?_
          refine AllReadyH.cons rfl (fun K' hK' => ?_) (AllReadyH.nil)
          · skip
            obtain ⟨qs, qf, ql⟩ := cells_of (l := [_, _, _, _, _, _, _]) (hX.out.ha _ rfl).1
            have q0 := qs 0 _ rfl
            have q1 := qs 1 _ rfl
            have q2 := qs 2 _ rfl
            have q3 := qs 3 _ rfl
            have q4 := qs 4 _ rfl
            have q5 := qs 5 _ rfl
            have q6 := qs 6 _ rfl
            have qf0 := qf 0
            have qf1 := qf 1
            have qf2 := qf 2
            have qf3 := qf 3
            have qf4 := qf 4
            have qf5 := qf 5
            have qf6 := qf 6
            have hY := hX.out.putA (.string xn) (.int .i64 xc) (.int .i64 xt) (.int .i64 xd) (.int .i64 xj) (.int .i64 xo) (.int .i64 xp)
            clear qs qf
            go_simp
            generalize (((((((wn10.setCell ⟨W0.heap.size, 0, none⟩ (.string xn)).setCell ⟨W0.heap.size, 1, none⟩ (.int .i64 xc)).setCell ⟨W0.heap.size, 2, none⟩ (.int .i64 xt)).setCell ⟨W0.heap.size, 3, none⟩ (.int .i64 xd)).setCell ⟨W0.heap.size, 4, none⟩ (.int .i64 xj)).setCell ⟨W0.heap.size, 5, none⟩ (.int .i64 xo)).setCell ⟨W0.heap.size, 6, none⟩ (.int .i64 xp)) = wn11 at hY ⊢
            clear q0 q1 q2 q3 q4 q5 q6 qf0 qf1 qf2 qf3 qf4 qf5 qf6 ql
            refine hK'.out _ _ hY.bel (fun hHeld => ?_)
            clear hK' K' hX
            have hX : Hid (R6 w2 wn11 (some (W0.heap.size)) (some (wn9.heap.size)) #[.string xn, .int .i64 xc, .int .i64 xt, .int .i64 xd, .int .i64 xj, .int .i64 xo, .int .i64 xp]) := hY
            clear hY
            obtain ⟨qs, qf, ql⟩ := cells_of (l := [_]) (hX.out.hb _ rfl).1
            have q0 := qs 0 _ rfl
            have qf0 := qf 0
            clear qs qf
            have hY := hX.out.putB (.int .i64 (lossF l xp sp))
            have HYY : Hid _ := hY
            refine wpAnyH_ready (rs := [15]) (by kernel_rfl) (by simp) ?_
            refine AllReadyH.cons rfl (fun K' hK' => ?_) AllReadyH.nil
            go_simp
            refine hK'.out _ _ HYY.out.1 (fun hHeld => ?_)
            clear hK' K' hY
            refine wpAnyH_done (by kernel_rfl) ?_ _
            refine NoPanic.normal ?_
            go_wp2_with fail
            go_meet
            case rel =>
              exact ⟨_, _, rfl, rfl, HYY.out.1, HYY.out.2.1, HYY.out.2.2⟩
      · skip
        have hY := hX.out.addB
        go_simp
        generalize wn8.alloc (.cells #[.int .i64 0] 3) = wn12 at hY ⊢
        refine hK'.out _ _ hY.bel (fun hHeld => ?_)
        clear hK' K' hX
        have hX : Hid (R6 w2 wn12 (some (W0.heap.size)) (some (wn8.heap.size)) #[.string ⟨#[]⟩, .int .i64 0, .int .i64 0, .int .i64 0, .int .i64 0, .int .i64 0, .int .i64 0]) := hY
        clear hY
        refine wpAnyH_ready (rs := [11]) (by kernel_rfl) (by simp) ?_
        refine AllReadyH.cons rfl (fun K' hK' => ?_) (AllReadyH.nil)
        · skip
          go_simp
          go_wp2_with (go_at_call 25; refine (HL.out wn12 hX.out.bel).mono ?_; rintro r wn13 ⟨rfl, hb9⟩)
          have hY := hX.out.grow hb9
          refine hK'.out _ _ hY.bel (fun hHeld => ?_)
          clear hK' K' hX
          have hX : Hid (R6 w2 wn13 (some (W0.heap.size)) (some (wn8.heap.size)) #[.string ⟨#[]⟩, .int .i64 0, .int .i64 0, .int .i64 0, .int .i64 0, .int .i64 0, .int .i64 0]) := hY
          clear hY
          refine wpAnyH_ready (rs := [14]) (by kernel_rfl) (by simp) ?_
          refine AllReadyH.cons rfl (fun K' hK' => ?_) (AllReadyH.nil)
          · skip
            obtain ⟨qs, qf, ql⟩ := cells_of (l := [_, _, _, _, _, _, _]) (hX.out.ha _ rfl).1
            have q0 := qs 0 _ rfl
            have q1 := qs 1 _ rfl
            have q2 := qs 2 _ rfl
            have q3 := qs 3 _ rfl
            have q4 := qs 4 _ rfl
            have q5 := qs 5 _ rfl
            have q6 := qs 6 _ rfl
            have qf0 := qf 0
            have qf1 := qf 1
            have qf2 := qf 2
            have qf3 := qf 3
            have qf4 := qf 4
            have qf5 := qf 5
            have qf6 := qf 6
            have hY := hX.out.putA (.string xn) (.int .i64 xc) (.int .i64 xt) (.int .i64 xd) (.int .i64 xj) (.int .i64 xo) (.int .i64 xp)
            clear qs qf
            go_simp
            generalize (((((((wn13.setCell ⟨W0.heap.size, 0, none⟩ (.string xn)).setCell ⟨W0.heap.size, 1, none⟩ (.int .i64 xc)).setCell ⟨W0.heap.size, 2, none⟩ (.int .i64 xt)).setCell ⟨W0.heap.size, 3, none⟩ (.int .i64 xd)).setCell ⟨W0.heap.size, 4, none⟩ (.int .i64 xj)).setCell ⟨W0.heap.size, 5, none⟩ (.int .i64 xo)).setCell ⟨W0.heap.size, 6, none⟩ (.int .i64 xp)) = wn14 at hY ⊢
            clear q0 q1 q2 q3 q4 q5 q6 qf0 qf1 qf2 qf3 qf4 qf5 qf6 ql
            refine hK'.out _ _ hY.bel (fun hHeld => ?_)
            clear hK' K' hX
            have hX : Hid (R6 w2 wn14 (some (W0.heap.size)) (some (wn8.heap.size)) #[.string xn, .int .i64 xc, .int .i64 xt, .int .i64 xd, .int .i64 xj, .int .i64 xo, .int .i64 xp]) := hY
            clear hY
            obtain ⟨qs, qf, ql⟩ := cells_of (l := [_]) (hX.out.hb _ rfl).1
            have q0 := qs 0 _ rfl
            have qf0 := qf 0
            clear qs qf
            have hY := hX.out.putB (.int .i64 (lossF l xp sp))
            have HYY : Hid _ := hY
            refine wpAnyH_ready (rs := [15]) (by kernel_rfl) (by simp) ?_
            refine AllReadyH.cons rfl (fun K' hK' => ?_) AllReadyH.nil
            go_simp
            refine hK'.out _ _ HYY.out.1 (fun hHeld => ?_)
            clear hK' K' hY
            refine wpAnyH_done (by kernel_rfl) ?_ _
            refine NoPanic.normal ?_
            go_wp2_with fail
            go_meet
            case rel =>
              exact ⟨_, _, rfl, rfl, HYY.out.1, HYY.out.2.1, HYY.out.2.2⟩
    · skip
      have hY := hX.out.addB
      go_simp
      generalize W0.alloc (.cells #[.int .i64 0] 3) = wn15 at hY ⊢
      refine hK'.out _ _ hY.bel (fun hHeld => ?_)
      clear hK' K' hX
      have hX : Hid (R6 w2 wn15 none (some (W0.heap.size)) #[.string ⟨#[]⟩, .int .i64 0, .int .i64 0, .int .i64 0, .int .i64 0, .int .i64 0, .int .i64 0]) := hY
      clear hY
      refine wpAnyH_ready (rs := [11, 12]) (by kernel_rfl) (by simp) ?_
      refine AllReadyH.cons rfl (fun K' hK' => ?_) (AllReadyH.cons rfl (fun K' hK' => ?_) (AllReadyH.nil))
      · skip
        go_simp
        go_wp2_with (go_at_call 25; refine (HL.out wn15 hX.out.bel).mono ?_; rintro r wn16 ⟨rfl, hb9⟩)
        have hY := hX.out.grow hb9
        refine hK'.out _ _ hY.bel (fun hHeld => ?_)
        clear hK' K' hX
        have hX : Hid (R6 w2 wn16 none (some (W0.heap.size)) #[.string ⟨#[]⟩, .int .i64 0, .int .i64 0, .int .i64 0, .int .i64 0, .int .i64 0, .int .i64 0]) := hY
        clear hY
        refine wpAnyH_ready (rs := [12]) (by kernel_rfl) (by simp) ?_
        refine AllReadyH.cons rfl (fun K' hK' => ?_) (AllReadyH.nil)
        · skip
          have hY := hX.out.addA
          go_simp
          generalize wn16.alloc (.cells #[.string ⟨#[]⟩, .int .i64 0, .int .i64 0, .int .i64 0, .int .i64 0, .int .i64 0, .int .i64 0] 27) = wn17 at hY ⊢
          refine hK'.out _ _ hY.bel (fun hHeld => ?_)
          clear hK' K' hX
          have hX : Hid (R6 w2 wn17 (some (wn16.heap.size)) (some (W0.heap.size)) #[.string ⟨#[]⟩, .int .i64 0, .int .i64 0, .int .i64 0, .int .i64 0, .int .i64 0, .int .i64 0]) := hY
          clear hY
          refine wpAnyH_ready (rs := [14]) (by kernel_rfl) (by simp) ?_
          refine AllReadyH.cons rfl (fun K' hK' => ?_) (AllReadyH.nil)
          · skip
            obtain ⟨qs, qf, ql⟩ := cells_of (l := [_, _, _, _, _, _, _]) (hX.out.ha _ rfl).1
            have q0 := qs 0 _ rfl
            have q1 := qs 1 _ rfl
            have q2 := qs 2 _ rfl
            have q3 := qs 3 _ rfl
            have q4 := qs 4 _ rfl
            have q5 := qs 5 _ rfl
            have q6 := qs 6 _ rfl
            have qf0 := qf 0
            have qf1 := qf 1
            have qf2 := qf 2
            have qf3 := qf 3
            have qf4 := qf 4
            have qf5 := qf 5
            have qf6 := qf 6
            have hY := hX.out.putA (.string xn) (.int .i64 xc) (.int .i64 xt) (.int .i64 xd) (.int .i64 xj) (.int .i64 xo) (.int .i64 xp)
            clear qs qf
            go_simp
            generalize (((((((wn17.setCell ⟨wn16.heap.size, 0, none⟩ (.string xn)).setCell ⟨wn16.heap.size, 1, none⟩ (.int .i64 xc)).setCell ⟨wn16.heap.size, 2, none⟩ (.int .i64 xt)).setCell ⟨wn16.heap.size, 3, none⟩ (.int .i64 xd)).setCell ⟨wn16.heap.size, 4, none⟩ (.int .i64 xj)).setCell ⟨wn16.heap.size, 5, none⟩ (.int .i64 xo)).setCell ⟨wn16.heap.size, 6, none⟩ (.int .i64 xp)) = wn18 at hY ⊢
            clear q0 q1 q2 q3 q4 q5 q6 qf0 qf1 qf2 qf3 qf4 qf5 qf6 ql
            refine hK'.out _ _ hY.bel (fun hHeld => ?_)
            clear hK' K' hX
            have hX : Hid (R6 w2 wn18 (some (wn16.heap.size)) (some (W0.heap.size)) #[.string xn, .int .i64 xc, .int .i64 xt, .int .i64 xd, .int .i64 xj, .int .i64 xo, .int .i64 xp]) := hY
            clear hY
            obtain ⟨qs, qf, ql⟩ := cells_of (l := [_]) (hX.out.hb _ rfl).1
            have q0 := qs 0 _ rfl
            have qf0 := qf 0
            clear qs qf
            have hY := hX.out.putB (.int .i64 (lossF l xp sp))
            have HYY : Hid _ := hY
            refine wpAnyH_ready (rs := [15]) (by kernel_rfl) (by simp) ?_
            refine AllReadyH.cons rfl (fun K' hK' => ?_) AllReadyH.nil
            go_simp
            refine hK'.out _ _ HYY.out.1 (fun hHeld => ?_)
            clear hK' K' hY
            refine wpAnyH_done (by kernel_rfl) ?_ _
            refine NoPanic.normal ?_
            go_wp2_with fail
            go_meet
            case rel =>
              exact ⟨_, _, rfl, rfl, HYY.out.1, HYY.out.2.1, HYY.out.2.2⟩
      · skip
        have hY := hX.out.addA
        go_simp
        generalize wn15.alloc (.cells #[.string ⟨#[]⟩, .int .i64 0, .int .i64 0, .int .i64 0, .int .i64 0, .int .i64 0, .int .i64 0] 27) = wn19 at hY ⊢
        refine hK'.out _ _ hY.bel (fun hHeld => ?_)
        clear hK' K' hX
        have hX : Hid (R6 w2 wn19 (some (wn15.heap.size)) (some (W0.heap.size)) #[.string ⟨#[]⟩, .int .i64 0, .int .i64 0, .int .i64 0, .int .i64 0, .int .i64 0, .int .i64 0]) := hY
        clear hY
        refine wpAnyH_ready (rs := [11]) (by kernel_rfl) (by simp) ?_
        refine AllReadyH.cons rfl (fun K' hK' => ?_) (AllReadyH.nil)
        · skip
          go_simp
          go_wp2_with (go_at_call 25; refine (HL.out wn19 hX.out.bel).mono ?_; rintro r wn20 ⟨rfl, hb9⟩)
          have hY := hX.out.grow hb9
          refine hK'.out _ _ hY.bel (fun hHeld => ?_)
          clear hK' K' hX
          have hX : Hid (R6 w2 wn20 (some (wn15.heap.size)) (some (W0.heap.size)) #[.string ⟨#[]⟩, .int .i64 0, .int .i64 0, .int .i64 0, .int .i64 0, .int .i64 0, .int .i64 0]) := hY
          clear hY
          refine wpAnyH_ready (rs := [14]) (by kernel_rfl) (by simp) ?_
          refine AllReadyH.cons rfl (fun K' hK' => ?_) (AllReadyH.nil)
          · skip
            obtain ⟨qs, qf, ql⟩ := cells_of (l := [_, _, _, _, _, _, _]) (hX.out.ha _ rfl).1
            have q0 := qs 0 _ rfl
            have q1 := qs 1 _ rfl
            have q2 := qs 2 _ rfl
            have q3 := qs 3 _ rfl
            have q4 := qs 4 _ rfl
            have q5 := qs 5 _ rfl
            have q6 := qs 6 _ rfl
            have qf0 := qf 0
            have qf1 := qf 1
            have qf2 := qf 2
            have qf3 := qf 3
            have qf4 := qf 4
            have qf5 := qf 5
            have qf6 := qf 6
            have hY := hX.out.putA (.string xn) (.int .i64 xc) (.int .i64 xt) (.int .i64 xd) (.int .i64 xj) (.int .i64 xo) (.int .i64 xp)
            clear qs qf
            go_simp
            generalize (((((((wn20.setCell ⟨wn15.heap.size, 0, none⟩ (.string xn)).setCell ⟨wn15.heap.size, 1, none⟩ (.int .i64 xc)).setCell ⟨wn15.heap.size, 2, none⟩ (.int .i64 xt)).setCell ⟨wn15.heap.size, 3, none⟩ (.int .i64 xd)).setCell ⟨wn15.heap.size, 4, none⟩ (.int .i64 xj)).setCell ⟨wn15.heap.size, 5, none⟩ (.int .i64 xo)).setCell ⟨wn15.heap.size, 6, none⟩ (.int .i64 xp)) = wn21 at hY ⊢
            clear q0 q1 q2 q3 q4 q5 q6 qf0 qf1 qf2 qf3 qf4 qf5 qf6 ql
            refine hK'.out _ _ hY.bel (fun hHeld => ?_)
            clear hK' K' hX
            have hX : Hid (R6 w2 wn21 (some (wn15.heap.size)) (some (W0.heap.size)) #[.string xn, .int .i64 xc, .int .i64 xt, .int .i64 xd, .int .i64 xj, .int .i64 xo, .int .i64 xp]) := hY
            clear hY
            obtain ⟨qs, qf, ql⟩ := cells_of (l := [_]) (hX.out.hb _ rfl).1
            have q0 := qs 0 _ rfl
            have qf0 := qf 0
            clear qs qf
            have hY := hX.out.putB (.int .i64 (lossF l xp sp))
            have HYY : Hid _ := hY
            refine wpAnyH_ready (rs := [15]) (by kernel_rfl) (by simp) ?_
            refine AllReadyH.cons rfl (fun K' hK' => ?_) AllReadyH.nil
            go_simp
            refine hK'.out _ _ HYY.out.1 (fun hHeld => ?_)
            clear hK' K' hY
            refine wpAnyH_done (by kernel_rfl) ?_ _
            refine NoPanic.normal ?_
            go_wp2_with fail
            go_meet
            case rel =>
              exact ⟨_, _, rfl, rfl, HYY.out.1, HYY.out.2.1, HYY.out.2.2⟩
  case rest =>
    obtain ⟨ga, gb, rfl, rfl, hbc, hga, hgb⟩ := hcut
    have H3 : Hid (BR w wc (.slice (some ⟨b, o, none⟩) l.length c) (n : Int) gap) := H2.out.grow hbc
    obtain ⟨ms, -, ml⟩ := cells_of (l := [_, _, _, _, _, _, _]) hga
    have m1 := ms 1 _ rfl
    have m3 := ms 3 _ rfl
    have m4 := ms 4 _ rfl
    have n0 := (cells_of (l := [_]) hgb).1 0 _ rfl
    have d0 := (cells_of (l := [_]) H3.out.b0).1 0 _ rfl
    have d1 := (cells_of (l := [_]) H3.out.b1).1 0 _ rfl
    have d2 := (cells_of (l := [_]) H3.out.b2).1 0 _ rfl
    clear ms hbc hga hgb H2 t0 t1 t2 t3 t4 t5 t6 hbx0 hbx1 hbx2 r0 r1 rf0 rf1 g0 g1
    obtain ⟨p1, p2, p3, p4, p5, p6⟩ := HP.out
    have ex := HTk.out
    have A0 : askR l n gap sp w0 ≥ w0 := by
      have q1 := lossF_range (p := (Tk l n).p) p2 hsp.1
      have q2 : 0 ≤ (w0 + gap - 1) / gap * lossF l (Tk l n).p sp := Int.mul_nonneg (Int.ediv_nonneg (by omega) (by omega)) q1.1
      unfold askR
      rw [show askF (Tk l n).c (othF (aheadP l n) n l 0) w0 = w0 by rw [ex]; exact p4]
      omega
    have hST := settle_any wc w0 (xd - xj) (.pointer (some ⟨ga, 0, none⟩)) (.pointer (some ⟨w.heap.size, 0, none⟩)) (.pointer (some ⟨w.heap.size + 1, 0, none⟩)) (.pointer (some ⟨w.heap.size + 1 + 1, 0, none⟩)) (.pointer (some ⟨gb, 0, none⟩)) (askR l n gap sp) hw0
      (fun W hb z z1 z2 => askc_any W l n gap sp z _ ga w.heap.size (w.heap.size + 1) (w.heap.size + 1 + 1) gb p3 hn p2 (by omega) hgp hsp.1 ((p6.below H3.out.bel).below hb) (by rw [ex]; exact below_cell hb m1) (below_cell hb d0) (below_cell hb d1) (below_cell hb d2) (by rw [ex]; exact below_cell hb n0))
      A0 (fun x y _ hxy _ => askR_mono p2 hxy hgp.1 hsp.1) (fun v v1 v2 _ => askR_no p2 hn hgp.1 hsp.1 (by rw [ex]; exact p5) v v1 v2)
    have hsh := wOf_shift (ask := askR l n gap sp) (jj := xj) (d := xd) (by omega)
    have hrg := wOf_range (ask := askR l n gap sp) (jj := 0) (d := xd - xj) (Int.le_refl _) (by omega)
    have HRD : Hid (rdF l (n : Int) gap sp = if wOf (askR l n gap sp) 0 (xd - xj) = 0 then (0, (13, (n : Int))) else (wOf (askR l n gap sp) 0 (xd - xj) + xj, (0, 0))) := by
      show _ = _
      unfold rdF
      rw [if_neg (by rw [HZ0.out]; simp), if_neg (by rw [HW.out.1, HW.out.2]; simp), Int.toNat_natCast, ex]
      dsimp only
      rw [hsh]
      by_cases h : wOf (askR l n gap sp) 0 (xd - xj) = 0
      · rw [if_pos h, if_pos rfl, if_pos h]
      · rw [if_neg h, if_neg (by omega), if_neg h]
    clear hsh A0 p1 p2 p3 p4 p5 p6 ex
    generalize wOf (askR l n gap sp) 0 (xd - xj) = q at *
    have e1 : IntKind.i64.wrap (w0 + xj - xj) = w0 := by rw [IntKind.wrap_i64]; omega
    have e2 : IntKind.i64.wrap (xd - xj) = xd - xj := by rw [IntKind.wrap_i64]; omega
    have e3 : IntKind.i64.wrap (q + xj) = q + xj := by rw [IntKind.wrap_i64]; omega
    by_cases hq : q = 0
    · subst hq
      rw [show decide ((0 : Int) ≠ 0) = false by simp] at hST
      go_upto_region 9 with (go_at_call 26; refine hST.mono ?_; rintro r w6 ⟨rfl, hb6⟩; have H2 : Hid (BR w w6 (.slice (some ⟨b, o, none⟩) l.length c) (n : Int) gap) := H3.out.grow hb6; have d1' := below_cell hb6 d1; clear hb6 hST)
      obtain ⟨rs, rf, rl⟩ := cells_of (l := [_, _]) H2.out.res; have r0 := rs 0 _ rfl; have r1 := rs 1 _ rfl; have rf0 := rf 0; have rf1 := rf 1; clear rs rf
      clear m1 m3 m4 n0 d0 d1 d2
      go_region
      all_goals go_wp2_with fail
      all_goals
        have hx := H2.out.set (.int .i64 13) (.int .i64 (n : Int))
        refine bodyPost_ret (rd_ends hx.1 rfl rfl) rfl ?_
        have e := HY.out
        rw [HRD.out, if_pos trivial] at e
        simp at e
        obtain ⟨f1, f2, f3⟩ := e
        subst f1 f2 f3
        exact ⟨rfl, hx.2.drew⟩
    · rw [decide_eq_true (show q ≠ 0 from hq)] at hST
      go_wp2_with (go_at_call 26; refine hST.mono ?_; rintro r w6 ⟨rfl, hb6⟩; have H2 : Hid (BR w w6 (.slice (some ⟨b, o, none⟩) l.length c) (n : Int) gap) := H3.out.grow hb6; have m4' := below_cell hb6 m4; obtain ⟨rs, rf, rl⟩ := cells_of (l := [_, _]) H2.out.res; have r0 := rs 0 _ rfl; have r1 := rs 1 _ rfl; have rf0 := rf 0; have rf1 := rf 1; clear rs rf; clear hb6 hST)
      all_goals
        have hx := H2.out.set (.int .i64 0) (.int .i64 0)
        refine bodyPost_ret (rd_ends hx.1 rfl rfl) rfl ?_
        have e := HY.out
        rw [HRD.out, if_neg hq] at e
        simp at e
        obtain ⟨f1, f2, f3⟩ := e
        subst f1 f2 f3
        exact ⟨rfl, hx.2⟩
end Go.Proofs.YtekbkcgpjkecbalDoor
