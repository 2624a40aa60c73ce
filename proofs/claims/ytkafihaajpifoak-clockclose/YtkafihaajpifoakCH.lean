import Derived.Test.YtkafihaajpifoakCG
import Derived.Laws.CopyRow
namespace Go.Proofs.Ytkafihaajpifoak
open Go.ChangeShapes Go.WideShapes Go.ChangeAt Go.RowKit Go.Sort

theorem tmod_in (v m : Int) (h0 : 0 ≤ m) : -m ≤ v.tmod (m + 1) ∧ v.tmod (m + 1) ≤ m := by
  have h7 := Int.natAbs_tmod v (m + 1)
  have h8 : v.natAbs % (m + 1).natAbs < (m + 1).natAbs := Nat.mod_lt _ (by omega)
  omega

/-- What is added. -/
theorem near_any (w : World) (v m : Int) (h0 : 0 ≤ m) (h1 : m ≤ 1000) : Calls Try.prog 5 #[.int .i64 v, .int .i64 m] w fun r w' => ∃ z, r = .returned (.int .i64 z) ∧ -m ≤ z ∧ z ≤ m ∧ w' = w := by
  have hz := tmod_in v m h0
  have q1 : IntKind.i64.wrap (m + 1) = m + 1 := by rw [IntKind.wrap_i64]; omega
  have q2 : (m + 1 == 0) = false := beq_eq_false_iff_ne.2 (by omega)
  have q3 : decide (m + 1 = 0) = false := decide_eq_false (by omega)
  have q4 : ¬ m + 1 = 0 := by omega
  have q5 : IntKind.i64.wrap (v.tmod (m + 1)) = v.tmod (m + 1) := by rw [IntKind.wrap_i64]; omega
  have HZ : Hid (-m ≤ v.tmod (m + 1) ∧ v.tmod (m + 1) ≤ m) := hz
  clear hz h0 h1
  go_enter Try.func5, Try.ntmps5
  go_wp2_with fail
  go_ret
  exact ⟨_, rfl, HZ.out.1, HZ.out.2, rfl⟩

/-- One of a list, or 0. -/
theorem at_any (w : World) (l : List Int) (v : Value) (k : Nat) (hk : k ≤ 100000) (hv : RowSl nuV w l v) : Calls Try.prog 6 #[v, .int .i64 (k : Int)] w fun r w' => ∃ z, r = .returned (.int .i64 z) ∧ w' = w := by
  obtain ⟨ad, c, rfl, hnil, hcap, hrow⟩ := hv
  by_cases h0 : l.length = 0
  · rw [h0]
    go_enter Try.func6, Try.ntmps6
    go_wp2_with fail
    go_ret
    exact ⟨_, rfl, rfl⟩
  · rcases hrow with h | ⟨b, o, rfl, hrow⟩
    · rw [h] at h0; exact absurd rfl h0
    have hrl : k % l.length < l.length := Nat.mod_lt _ (by omega)
    obtain ⟨x, hx, -⟩ := drop_at hrl
    have y0 := nu_at hrow hx
    have lb : b < w.heap.size := World.block_lt_of_cell? _ _ y0
    have e1 : ((k : Int)).tmod (l.length : Int) = ((k % l.length : Nat) : Int) := by rw [Int.tmod_eq_emod_of_nonneg (by omega)]; rfl
    have hmk : k % l.length ≤ k := Nat.mod_le _ _
    obtain ⟨m, hm⟩ : ∃ m, k % l.length = m := ⟨_, rfl⟩
    rw [hm] at e1 hrl y0 hmk
    have q1 : IntKind.i64.wrap (m : Int) = (m : Int) := by rw [IntKind.wrap_i64]; omega
    have q2 : ((l.length : Int) == 0) = false := beq_eq_false_iff_ne.2 (by omega)
    have q3 : decide ((l.length : Int) = 0) = false := decide_eq_false (by omega)
    have q4 : ¬ (l.length : Int) = 0 := by omega
    have q5 : (m : Int) < (l.length : Int) := by omega
    have q6 : ¬ l = [] := fun e => h0 (by rw [e]; rfl)
    clear hrow hx hm hnil hmk
    go_enter Try.func6, Try.ntmps6
    go_wp2_with fail
    go_ret
    exact ⟨_, rfl, rfl⟩

/-- How far apart the first g are. -/
def IsAp (t : Nat → Int) (g : Nat) (D : Int) : Prop := (∀ i j, i < g → j < g → t i - t j ≤ D) ∧ ∃ i j, i < g ∧ j < g ∧ D = t i - t j
theorem IsAp.one {t : Nat → Int} {g : Nat} {D E : Int} (h : IsAp t g D) (h' : IsAp t g E) : D = E := by
  obtain ⟨h1, i, j, hi, hj, e⟩ := h
  obtain ⟨h2, p, q, hp, hq, e'⟩ := h'
  have := h1 p q hp hq
  have := h2 i j hi hj
  omega
theorem IsAp.nonneg {t : Nat → Int} {g : Nat} {D : Int} (h : IsAp t g D) : 0 ≤ D := by
  obtain ⟨h1, i, j, hi, -, -⟩ := h
  have := h1 i i hi hi
  omega
/-- The least and the greatest of the first j. -/
def LoHi (t : Nat → Int) (g j : Nat) (lo hi : Int) : Prop := (∀ q, q < j → lo ≤ t q ∧ t q ≤ hi) ∧ (∃ q, q < g ∧ lo = t q) ∧ (∃ q, q < g ∧ hi = t q)
theorem LoHi.next {t : Nat → Int} {g j : Nat} {lo hi : Int} (h : LoHi t g j lo hi) (hj : j < g) : LoHi t g (j + 1) (min lo (t j)) (max hi (t j)) := by
  obtain ⟨h1, ⟨a, ha, ea⟩, b, hb, eb⟩ := h
  refine ⟨fun q hq => ?_, ?_, ?_⟩
  · by_cases e : q = j
    · subst e; omega
    · have := h1 q (by omega); omega
  · by_cases e : lo ≤ t j
    · exact ⟨a, ha, by omega⟩
    · exact ⟨j, hj, by omega⟩
  · by_cases e : t j ≤ hi
    · exact ⟨b, hb, by omega⟩
    · exact ⟨j, hj, by omega⟩
theorem LoHi.ap {t : Nat → Int} {g : Nat} {lo hi : Int} (h : LoHi t g g lo hi) : IsAp t g (hi - lo) := by
  obtain ⟨h1, ⟨a, ha, ea⟩, b, hb, eb⟩ := h
  exact ⟨fun i j hi hj => by have := h1 i hi; have := h1 j hj; omega, b, a, hb, ha, by omega⟩

set_option maxRecDepth 20000 in
set_option maxHeartbeats 2000000 in
theorem apart_any (w : World) (Nb Gb Wb n g : Nat) (t : Nat → Int) (h1 : w.cell? ⟨Nb, 0, none⟩ = some (.slice (some ⟨Wb, 0, none⟩) n n)) (h2 : w.cell? ⟨Gb, 0, none⟩ = some (.int .i64 (g : Int))) (h3 : ∀ j, j < n → w.cell? ⟨Wb, j, none⟩ = some (.int .i64 (t j))) (hg : 0 < g) (hgn : g ≤ n) (hn : n ≤ 10) (hb : ∀ j, j < g → -2000000 ≤ t j ∧ t j ≤ 2000000) :
    Calls Try.prog 7 #[.pointer (some ⟨Nb, 0, none⟩), .pointer (some ⟨Gb, 0, none⟩)] w fun r w' => ∃ D, r = .returned (.int .i64 D) ∧ IsAp t g D ∧ Below w.heap.size w w' := by
  have HR : Hid ((∀ j, j < n → w.cell? ⟨Wb, j, none⟩ = some (.int .i64 (t j))) ∧ ∀ j, j < g → -2000000 ≤ t j ∧ t j ≤ 2000000) := ⟨h3, hb⟩
  have c0 := h3 0 (by omega)
  have l0 : Wb < w.heap.size := World.block_lt_of_cell? _ _ c0
  have l1 : Nb < w.heap.size := World.block_lt_of_cell? _ _ h1
  have l2 : Gb < w.heap.size := World.block_lt_of_cell? _ _ h2
  have z0 : (0 : Int) < (n : Int) := by omega
  have z1 : 0 < n := by omega
  have z2 : (g : Int) ≤ (n : Int) := by omega
  clear h3 hb
  go_enter Try.func7, Try.ntmps7
  go_wp2_with fail
  refine wp_region_noPanic ?_
  refine wp_region_held_drew (S := fun w' => w'.cell? ⟨Nb, 0, none⟩ = some (.slice (some ⟨Wb, 0, none⟩) n n) ∧ w'.cell? ⟨Wb, 0, none⟩ = some (.int .i64 (t 0))) (by kernel_rfl) ⟨by go_simp, by go_simp⟩ (fun hHeld => ?_)
  refine take_at (i := 0) (n := 7) (v := ?_) rfl rfl (by kernel_rfl) (by kernel_rfl) (by kernel_rfl) (fun _ _ _ h => h) (Or.inl ⟨by rfl, ?_⟩) (by assumption) ?_
  rotate_left 1
  · intro wz hSw
    obtain ⟨k0, k1⟩ := hSw
    first | (go_simp; done) | (go_simp; with_reducible rfl)
  simp only [List.set_cons_zero, List.set_cons_succ]
  refine take_at (i := 1) (n := 8) (v := ?_) rfl rfl (by kernel_rfl) (by kernel_rfl) (by kernel_rfl) (fun _ _ _ h => h) (Or.inl ⟨by rfl, ?_⟩) (by assumption) ?_
  rotate_left 1
  · intro wz hSw
    obtain ⟨k0, k1⟩ := hSw
    first | (go_simp; done) | (go_simp; with_reducible rfl)
  simp only [List.set_cons_zero, List.set_cons_succ]
  refine take_at (i := 2) (n := 9) (v := ?_) rfl rfl (by kernel_rfl) (by kernel_rfl) (by kernel_rfl) (fun _ _ _ h => h) (Or.inl ⟨by rfl, ?_⟩) (by assumption) ?_
  rotate_left 1
  · intro wz hSw
    obtain ⟨k0, k1⟩ := hSw
    first | (go_simp; done) | (go_simp; with_reducible rfl)
  simp only [List.set_cons_zero, List.set_cons_succ]
  refine take_at (i := 3) (n := 10) (v := ?_) rfl rfl (by kernel_rfl) (by kernel_rfl) (by kernel_rfl) (fun _ _ _ h => h) (Or.inl ⟨by rfl, ?_⟩) (by assumption) ?_
  rotate_left 1
  · intro wz hSw
    obtain ⟨k0, k1⟩ := hSw
    first | (go_simp; done) | (go_simp; with_reducible rfl)
  simp only [List.set_cons_zero, List.set_cons_succ]
  refine take_at (i := 4) (n := 11) (v := ?_) rfl rfl (by kernel_rfl) (by kernel_rfl) (by kernel_rfl) (fun _ _ _ h => h) (Or.inl ⟨by rfl, ?_⟩) (by assumption) ?_
  rotate_left 1
  · intro wz hSw
    obtain ⟨k0, k1⟩ := hSw
    first | (go_simp; done) | (go_simp; with_reducible rfl)
  simp only [List.set_cons_zero, List.set_cons_succ]
  refine take_at (i := 5) (n := 12) (v := ?_) rfl rfl (by kernel_rfl) (by kernel_rfl) (by kernel_rfl) (fun _ _ _ h => h) (Or.inl ⟨by rfl, ?_⟩) (by assumption) ?_
  rotate_left 1
  · intro wz hSw
    obtain ⟨k0, k1⟩ := hSw
    first | (go_simp; done) | (go_simp; with_reducible rfl)
  simp only [List.set_cons_zero, List.set_cons_succ]
  refine take_at (i := 6) (n := 3) (v := ?_) rfl rfl (by kernel_rfl) (by kernel_rfl) (by kernel_rfl) (fun _ _ _ h => h) (Or.inl ⟨by rfl, ?_⟩) (by assumption) ?_
  rotate_left 1
  · intro wz hSw
    obtain ⟨k0, k1⟩ := hSw
    first | (go_simp; done) | (go_simp; with_reducible rfl)
  simp only [List.set_cons_zero, List.set_cons_succ]
  refine take_at (i := 7) (n := 4) (v := ?_) rfl rfl (by kernel_rfl) (by kernel_rfl) (by kernel_rfl) (fun _ _ _ h => h) (Or.inl ⟨by rfl, ?_⟩) (by assumption) ?_
  rotate_left 1
  · intro wz hSw
    obtain ⟨k0, k1⟩ := hSw
    first | (go_simp; done) | (go_simp; with_reducible rfl)
  simp only [List.set_cons_zero, List.set_cons_succ]
  refine wpAnyH_done (by kernel_rfl) ?_ _
  refine NoPanic.normal ?_
  clear hHeld
  go_wp2_with fail
  go_loopw [3, 4, 17] (fun lv hv iv wr => ∃ (j : Nat) (lo hi : Int), j ≤ g ∧ lv = .int .i64 lo ∧ hv = .int .i64 hi ∧ iv = .int .i64 (j : Int) ∧ Below w.heap.size w wr ∧ Hid (LoHi t g j lo hi)) (fun _ _ iv _ => g - (intOf iv).toNat)
  case atStart => exact ⟨0, t 0, t 0, Nat.zero_le _, rfl, rfl, rfl, (Below.refl _ _).drew, ⟨fun q hq => by omega, ⟨0, hg, rfl⟩, 0, hg, rfl⟩⟩
  case round =>
    obtain ⟨j, lo, hi, hj, rfl, rfl, rfl, hb, HQ⟩ := hrel
    have HB : Hid (Below w.heap.size w wr) := hb
    by_cases hjl : j < g
    · have y0 := below_cell hb (HR.out.1 j (by omega))
      have lb : Wb < wr.heap.size := World.block_lt_of_cell? _ _ y0
      have hji : (j : Int) < (g : Int) := by omega
      have HN : Hid (LoHi t g (j + 1) (min lo (t j)) (max hi (t j))) := HQ.out.next hjl
      clear hb HQ
      generalize t j = tj at *
      go_wp2_with fail
      exact ⟨⟨j + 1, min lo tj, max hi tj, by omega, rfl, rfl, by simp, HB.out, HN⟩, by simp [intOf]; omega⟩
    · have hje : j = g := by omega
      subst hje
      have HA : Hid (IsAp t j (hi - lo)) := HQ.out.ap
      obtain ⟨-, ⟨a, ha, ea⟩, b, hb', eb⟩ := HQ.out
      have q1 : IntKind.i64.wrap (hi - lo) = hi - lo := by
        have := HR.out.2 a ha
        have := HR.out.2 b hb'
        rw [IntKind.wrap_i64]; omega
      clear hb HQ ea eb
      go_wp2_with fail
      go_ret
      exact ⟨_, rfl, HA.out, HB.out⟩
end Go.Proofs.Ytkafihaajpifoak
