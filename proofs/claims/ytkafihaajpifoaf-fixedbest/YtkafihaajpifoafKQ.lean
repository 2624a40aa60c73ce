import Derived.Test.YtkafihaajpifoafKF
import Derived.Test.YtkafihaajpifoafXE
namespace Go.Proofs.Ytkafihaajpifoaf
open Go.ChangeShapes Go.WideShapes Go.ChangeAt Go.RowKit

theorem wOf_zero {ask : Int → Int} {jj d : Int} (hj : 0 ≤ jj) (h : wOf ask jj d = 0) : ∀ w, 1 ≤ w → w + jj ≤ d → ask w ≠ w := by
  intro w h1 h2 h3
  unfold wOf at h
  cases e : (List.range (d + 1).toNat).find? (isFix ask jj d) with
  | none =>
    rw [List.find?_range_eq_none] at e
    have := e w.toNat (by omega)
    rw [Bool.not_eq_true', Bool.eq_false_iff] at this
    refine this (isFix_iff.2 ⟨by omega, by omega, ?_⟩)
    rw [show ((w.toNat : Nat) : Int) = w by omega]
    exact h3
  | some n =>
    rw [e] at h
    rw [List.find?_range_eq_some] at e
    have := (isFix_iff.1 e.1).1
    have h' : (n : Int) + jj = 0 := h
    omega

theorem sumO_sumN {A : Nat → Bool} {i : Nat} {w : Int} {l : List Ta} : ∀ (d k : Nat), k + d = l.length → FK.sumN l.length (fun k => if k ≠ i ∧ A k = true then up1 w (Tk l k) else 0) = FK.sumN k (fun k => if k ≠ i ∧ A k = true then up1 w (Tk l k) else 0) + sumO w (othF A i (l.drop k) k)
  | 0, k, h => by
    rw [show k = l.length by omega, List.drop_length]
    simp [othF, sumO]
  | d + 1, k, h => by
    obtain ⟨x, hx, hd⟩ := drop_at (l := l) (k := k) (by omega)
    rw [sumO_sumN d (k + 1) (by omega), othF_at hd]
    show FK.sumN k _ + (if k ≠ i ∧ A k = true then up1 w (Tk l k) else 0) + _ = _
    rw [Tk_at hx]
    by_cases hc : k ≠ i ∧ A k = true
    · rw [if_pos hc, if_pos hc, sumO]; omega
    · rw [if_neg hc, if_neg hc]; omega

/- Priorities: pure. -/
theorem fix_below {f : Int → Int} (hm : ∀ u v, u ≤ v → f u ≤ f v) (h1 : ∀ u, 0 ≤ u → 1 ≤ f u) : ∀ (n : Nat) (w : Int), w = (n : Int) → 1 ≤ w → f w ≤ w → ∃ v, 1 ≤ v ∧ v ≤ w ∧ f v = v := by
  intro n
  induction n using Nat.strongRecOn with
  | ind n ih =>
    intro w hw h1w hf
    by_cases e : f w = w
    · exact ⟨w, h1w, Int.le_refl _, e⟩
    · have hp := h1 w (by omega)
      obtain ⟨v, q1, q2, q3⟩ := ih (f w).toNat (by omega) (f w) (by omega) hp (hm _ _ (by omega))
      exact ⟨v, q1, by omega, q3⟩

theorem ask_sum {l : List Ta} {A : Nat → Bool} {i : Nat} {own w : Int} : askF own (othF A i l 0) w = own + FK.sumN l.length (fun k => if k ≠ i ∧ A k = true then up1 w (Tk l k) else 0) := by
  have h := sumO_sumN (A := A) (i := i) (w := w) (l := l) l.length 0 (by omega)
  rw [List.drop_zero] at h
  unfold askF
  rw [h]
  show _ = own + ((0 : Int) + _)
  omega

/-- Whoever asks for no more than he has is in time. -/
theorem worst_of {l : List Ta} (hl : ∀ x ∈ l, stands x = true) {A : Nat → Bool} {i : Nat} {b w : Int} (hi : i < l.length) (hb : 0 ≤ b) (h1 : 1 ≤ w) (h2 : w + (Tk l i).j ≤ (Tk l i).d) (h3 : askF ((Tk l i).c + b) (othF A i l 0) w ≤ w) : worstF A l i b ≠ 0 := by
  obtain ⟨g1, g2, g3, g4, g5, g6, g7, g8, -, -⟩ := stands_t (stands_mem hl hi)
  have hO : ∀ x ∈ othF A i l 0, stands x = true := fun x hx => hl x (othF_mem l 0 x hx)
  obtain ⟨v, q1, q2, q3⟩ := fix_below (f := askF ((Tk l i).c + b) (othF A i l 0)) (fun u v huv => by
    have := sumO_mono huv _ hO
    unfold askF
    omega) (fun u hu => by
    have := (sumO_range (w := 0) (by omega) (by omega) _ hO).1
    have := sumO_mono (w := 0) (v := u) hu _ hO
    unfold askF
    omega) w.toNat w (by omega) h1 h3
  intro hz
  exact wOf_zero g7 (show wOf _ _ _ = 0 from hz) v q1 (by omega) q3

/-- Fewer ahead: all the better. -/
theorem worst_less {l : List Ta} (hl : ∀ x ∈ l, stands x = true) {A B : Nat → Bool} {i : Nat} {b : Int} (hi : i < l.length) (hb : 0 ≤ b) (h : ∀ k, k < l.length → k ≠ i → A k = true → B k = true) (hB : worstF B l i b ≠ 0) : worstF A l i b ≠ 0 := by
  obtain ⟨w, w1, w2, w3, -, -⟩ := wOf_some (show wOf _ _ _ ≠ 0 from hB)
  refine worst_of hl hi hb w1 w2 ?_
  rw [ask_sum] at w3 ⊢
  have : FK.sumN l.length (fun k => if k ≠ i ∧ A k = true then up1 w (Tk l k) else 0) ≤ FK.sumN l.length (fun k => if k ≠ i ∧ B k = true then up1 w (Tk l k) else 0) := by
    refine FK.sumN_le _ (fun k hk => ?_)
    have hu : 0 ≤ up1 w (Tk l k) := by
      have hz := up1_mono (w := 0) (v := w) (stands_mem hl hk) (by omega)
      have := (up1_range (w := 0) (stands_mem hl hk) (by omega) (by omega)).1
      omega
    by_cases hA : k ≠ i ∧ A k = true
    · rw [if_pos hA, if_pos ⟨hA.1, h k hk hA.1 hA.2⟩]; exact Int.le_refl _
    · rw [if_neg hA]
      split
      · exact hu
      · exact Int.le_refl _
  omega

theorem least_of (p : Nat → Int) (S : Nat → Bool) : ∀ n, (∃ i, i < n ∧ S i = true) → ∃ i, i < n ∧ S i = true ∧ ∀ k, k < n → S k = true → p i ≤ p k
  | 0, h => by obtain ⟨i, hi, -⟩ := h; omega
  | n + 1, h => by
    by_cases h0 : ∃ i, i < n ∧ S i = true
    · obtain ⟨i, h1, h2, h3⟩ := least_of p S n h0
      by_cases hn : S n = true ∧ p n < p i
      · refine ⟨n, by omega, hn.1, fun k hk hS => ?_⟩
        by_cases e : k = n
        · subst e; exact Int.le_refl _
        · have := h3 k (by omega) hS
          omega
      · refine ⟨i, by omega, h2, fun k hk hS => ?_⟩
        by_cases e : k = n
        · subst e
          have : ¬ p k < p i := fun q => hn ⟨hS, q⟩
          omega
        · exact h3 k (by omega) hS
    · obtain ⟨i, hi, hS⟩ := h
      have e : i = n := by
        apply Classical.byContradiction
        intro hne
        exact h0 ⟨i, by omega, hS⟩
      subst e
      refine ⟨i, by omega, hS, fun k hk hk2 => ?_⟩
      by_cases e : k = i
      · subst e; exact Int.le_refl _
      · exact absurd ⟨k, by omega, hk2⟩ h0

/-- Audsley: of those that are left one may be last, if any priorities do. -/
theorem audsley_step {l : List Ta} (hl : ∀ x ∈ l, stands x = true) {bs : Nat → Int} (hb : ∀ i, i < l.length → 0 ≤ bs i) (hd : ∀ i, i < l.length → worstF (aheadP l i) l i (bs i) ≠ 0) {S : Nat → Bool} (h : ∃ i, i < l.length ∧ S i = true) : ∃ i, i < l.length ∧ S i = true ∧ worstF S l i (bs i) ≠ 0 := by
  obtain ⟨i, h1, h2, h3⟩ := least_of (fun k => (Tk l k).p) S l.length h
  refine ⟨i, h1, h2, worst_less hl h1 (hb i h1) (fun k hk _ hS => ?_) (hd i h1)⟩
  unfold aheadP
  simpa using h3 k hk hS

/-- Those that are due sooner. -/
def dueA (l : List Ta) (i : Nat) (k : Nat) : Bool := decide ((Tk l k).d < (Tk l i).d ∨ ((Tk l k).d = (Tk l i).d ∧ k < i))

/-- Deadlines do, if any priorities do and nothing comes late. -/
theorem deadline_step {l : List Ta} (hl : ∀ x ∈ l, stands x = true) (hDT : ∀ x ∈ l, x.d ≤ x.t) (hj : ∀ x ∈ l, x.j = 0) (hd : ∀ i, i < l.length → worstF (aheadP l i) l i 0 ≠ 0) : ∀ i, i < l.length → worstF (dueA l i) l i 0 ≠ 0 := by
  intro i hi
  let S : Nat → Bool := fun k => decide (k = i) || dueA l i k
  obtain ⟨m, m1, m2, m3⟩ := least_of (fun k => (Tk l k).p) S l.length ⟨i, hi, by simp [S]⟩
  have hdm : (Tk l m).d ≤ (Tk l i).d := by
    have := m2
    simp only [S, Bool.or_eq_true, decide_eq_true_eq] at this
    rcases this with rfl | h
    · exact Int.le_refl _
    · unfold dueA at h
      simp at h
      omega
  have hF := worst_less (A := S) hl m1 (Int.le_refl 0) (fun k hk _ hS => by unfold aheadP; simpa using m3 k hk hS) (hd m m1)
  obtain ⟨w, w1, w2, w3, -, -⟩ := wOf_some (show wOf _ _ _ ≠ 0 from hF)
  have hjm := hj _ (Tk_mem m1)
  have hji := hj _ (Tk_mem hi)
  have htm := hDT _ (Tk_mem m1)
  refine worst_of hl hi (Int.le_refl 0) w1 (by omega) ?_
  rw [ask_sum] at w3 ⊢
  by_cases hmi : m = i
  · subst hmi
    have e : FK.sumN l.length (fun k => if k ≠ m ∧ dueA l m k = true then up1 w (Tk l k) else 0) = FK.sumN l.length (fun k => if k ≠ m ∧ S k = true then up1 w (Tk l k) else 0) := by
      refine FK.sumN_eq _ (fun k _ => ?_)
      by_cases hk : k = m
      · rw [if_neg (by simp [hk]), if_neg (by simp [hk])]
      · simp [S, hk]
    rw [e]
    omega
  · -- both m and i, apart from the rest
    have hmS : dueA l i m = true := by
      have := m2
      simp only [S, Bool.or_eq_true, decide_eq_true_eq] at this
      rcases this with h | h
      · exact absurd h hmi
      · exact h
    obtain ⟨g1, g2, g3, g4, g5, g6, g7, g8, -, -⟩ := stands_t (stands_mem hl m1)
    obtain ⟨i1, i2, i3, i4, i5, i6, i7, i8, -, -⟩ := stands_t (stands_mem hl hi)
    have um : up1 w (Tk l m) = (Tk l m).c := by
      unfold up1
      have e1 : (w + (Tk l m).j + (Tk l m).t - 1) / (Tk l m).t = 1 := by
        rw [hjm, Int.ediv_eq_iff_of_pos (by omega)]
        omega
      rw [e1]
      omega
    have ui : (Tk l i).c ≤ up1 w (Tk l i) := by
      unfold up1
      have e1 : 1 ≤ (w + (Tk l i).j + (Tk l i).t - 1) / (Tk l i).t := by
        rw [Int.le_ediv_iff_mul_le (by omega)]
        omega
      have := Int.mul_le_mul_of_nonneg_right (c := (Tk l i).c) e1 (by omega)
      omega
    let R : Nat → Int := fun k => if k ≠ i ∧ k ≠ m ∧ dueA l i k = true then up1 w (Tk l k) else 0
    have sA : FK.sumN l.length (fun k => if k ≠ i ∧ dueA l i k = true then up1 w (Tk l k) else 0) = FK.sumN l.length (fun k => (if k = m then up1 w (Tk l m) else 0) + R k) := by
      refine FK.sumN_eq _ (fun k _ => ?_)
      by_cases hk : k = m
      · subst hk
        rw [if_pos ⟨hmi, hmS⟩, if_pos rfl]
        have : R k = 0 := if_neg (by simp)
        omega
      · rw [if_neg hk]
        by_cases hc : k ≠ i ∧ dueA l i k = true
        · have : R k = up1 w (Tk l k) := if_pos ⟨hc.1, hk, hc.2⟩
          rw [if_pos hc]; omega
        · have : R k = 0 := if_neg (fun q => hc ⟨q.1, q.2.2⟩)
          rw [if_neg hc]; omega
    have sB : FK.sumN l.length (fun k => if k ≠ m ∧ S k = true then up1 w (Tk l k) else 0) = FK.sumN l.length (fun k => (if k = i then up1 w (Tk l i) else 0) + R k) := by
      refine FK.sumN_eq _ (fun k _ => ?_)
      by_cases hk : k = i
      · subst hk
        rw [if_pos ⟨fun q => hmi q.symm, by simp [S]⟩, if_pos rfl]
        have : R k = 0 := if_neg (by simp)
        omega
      · rw [if_neg hk]
        by_cases hc : k ≠ m ∧ S k = true
        · have hdk : dueA l i k = true := by
            have := hc.2
            simp only [S, Bool.or_eq_true, decide_eq_true_eq] at this
            rcases this with h | h
            · exact absurd h hk
            · exact h
          have : R k = up1 w (Tk l k) := if_pos ⟨hk, hc.1, hdk⟩
          rw [if_pos hc]; omega
        · have : R k = 0 := if_neg (fun q => hc ⟨q.2.1, by simp [S, q.2.2]⟩)
          rw [if_neg hc]; omega
    rw [sA, FK.sumN_add, FK.sumN_pick _ m _ m1]
    rw [sB, FK.sumN_add, FK.sumN_pick _ i _ hi] at w3
    omega
end Go.Proofs.Ytkafihaajpifoaf
