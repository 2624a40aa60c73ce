import Derived.Test.YtdhnjemgnlklkagRows
namespace Go.Proofs.Ytdhnjemgnlklkag.FK

/- Sums over the first n. -/
def sumN : Nat → (Nat → Int) → Int
  | 0, _ => 0
  | n + 1, f => sumN n f + f n

theorem sumN_le : ∀ (n : Nat) {f g : Nat → Int}, (∀ i, i < n → f i ≤ g i) → sumN n f ≤ sumN n g
  | 0, _, _, _ => Int.le_refl _
  | n + 1, f, g, h => by
    have h1 := sumN_le n (f := f) (g := g) (fun i hi => h i (by omega))
    have h2 := h n (by omega)
    unfold sumN
    omega

theorem sumN_eq : ∀ (n : Nat) {f g : Nat → Int}, (∀ i, i < n → f i = g i) → sumN n f = sumN n g
  | 0, _, _, _ => rfl
  | n + 1, f, g, h => by
    unfold sumN
    rw [sumN_eq n (fun i hi => h i (by omega)), h n (by omega)]

theorem sumN_nonneg (n : Nat) {f : Nat → Int} (h : ∀ i, i < n → 0 ≤ f i) : 0 ≤ sumN n f := by
  have : sumN n (fun _ => 0) = 0 := by
    induction n with
    | zero => rfl
    | succ n ih => unfold sumN; rw [ih (fun i hi => h i (by omega))]; rfl
  rw [← this]
  exact sumN_le n h

theorem sumN_each : ∀ (n : Nat) {f : Nat → Int}, (∀ i, i < n → 0 ≤ f i) → sumN n f ≤ 0 → ∀ i, i < n → f i = 0
  | 0, _, _, _, i, hi => by omega
  | n + 1, f, h, hs, i, hi => by
    have h1 := sumN_nonneg n (f := f) (fun i hi => h i (by omega))
    have h2 := h n (by omega)
    unfold sumN at hs
    by_cases e : i = n
    · subst e; omega
    · exact sumN_each n (fun i hi => h i (by omega)) (by omega) i (by omega)

theorem sumN_one : ∀ (n : Nat) {f g : Nat → Int} (k : Nat), k < n → g k = f k - 1 → (∀ i, i < n → i ≠ k → g i = f i) → sumN n g = sumN n f - 1
  | 0, _, _, k, hk, _, _ => by omega
  | n + 1, f, g, k, hk, h1, h2 => by
    unfold sumN
    by_cases e : k = n
    · subst e
      rw [sumN_eq k (f := g) (g := f) (fun i hi => h2 i (by omega) (by omega)), h1]
      omega
    · rw [sumN_one n k (by omega) h1 (fun i hi hn => h2 i (by omega) hn), h2 n (by omega) (by omega)]
      omega

theorem sumN_add (n : Nat) (f g : Nat → Int) : sumN n (fun i => f i + g i) = sumN n f + sumN n g := by
  induction n with
  | zero => rfl
  | succ n ih => unfold sumN; rw [ih]; dsimp only; omega

theorem sumN_swap (n m : Nat) (A : Nat → Nat → Int) : sumN n (fun i => sumN m (fun k => A i k)) = sumN m (fun k => sumN n (fun i => A i k)) := by
  induction n with
  | zero =>
    show (0 : Int) = sumN m (fun _ => 0)
    induction m with
    | zero => rfl
    | succ m ih => unfold sumN; rw [← ih]; rfl
  | succ n ih =>
    show sumN n (fun i => sumN m (fun k => A i k)) + sumN m (fun k => A n k) = sumN m (fun k => sumN n (fun i => A i k) + A n k)
    rw [ih, sumN_add]

theorem sumN_pick : ∀ (m : Nat) (k0 : Nat) (v : Int), k0 < m → sumN m (fun k => if k = k0 then v else 0) = v
  | 0, k0, v, h => by omega
  | m + 1, k0, v, h => by
    unfold sumN
    dsimp only
    by_cases e : k0 = m
    · subst e
      rw [if_pos rfl, sumN_eq k0 (g := fun _ => 0) (fun i hi => if_neg (by omega))]
      have : sumN k0 (fun _ => 0) = 0 := by
        clear h
        induction k0 with
        | zero => rfl
        | succ n ih => unfold sumN; rw [ih]; rfl
      rw [this]; omega
    · rw [if_neg (by omega), sumN_pick m k0 v (by omega)]
      omega

/- Jobs that are played: r when they are there, x how long they take, L what is left of each, tick by tick; H those that go ahead. -/
structure Run (n N : Nat) (r x : Nat → Int) (H : Nat → Prop) (L : Nat → Nat → Int) : Prop where
  r0 : ∀ i, i < n → 0 ≤ r i
  init : ∀ i, i < n → L 0 i = x i
  nneg : ∀ t i, t ≤ N → i < n → 0 ≤ L t i
  step : ∀ t, t < N → ((∀ i, i < n → L (t + 1) i = L t i) ∧ ∀ i, i < n → H i → r i ≤ t → L t i = 0) ∨
    ∃ k, k < n ∧ r k ≤ t ∧ 0 < L t k ∧ L (t + 1) k = L t k - 1 ∧ (∀ i, i < n → i ≠ k → L (t + 1) i = L t i) ∧ (H k ∨ ∀ i, i < n → H i → r i ≤ t → L t i = 0)

def Quiet (n : Nat) (r : Nat → Int) (H : Nat → Prop) (L : Nat → Nat → Int) (t : Nat) : Prop := ∀ i, i < n → H i → r i < t → L t i = 0

theorem Run.down {n N : Nat} {r x : Nat → Int} {H : Nat → Prop} {L : Nat → Nat → Int} (h : Run n N r x H L) {i : Nat} (hi : i < n) : ∀ (d t : Nat), t + d ≤ N → L (t + d) i ≤ L t i
  | 0, t, _ => Int.le_refl _
  | d + 1, t, ht => by
    have h1 := h.down hi d t (by omega)
    have : L (t + d + 1) i ≤ L (t + d) i := by
      rcases h.step (t + d) (by omega) with ⟨h2, -⟩ | ⟨k, hk, -, -, h3, h4, -⟩
      · rw [h2 i hi]; exact Int.le_refl _
      · by_cases e : i = k
        · subst e; omega
        · rw [h4 i hi e]; exact Int.le_refl _
    rw [show t + (d + 1) = t + d + 1 by omega]
    omega

theorem Run.zero {n N : Nat} {r x : Nat → Int} {H : Nat → Prop} {L : Nat → Nat → Int} (h : Run n N r x H L) {i t u : Nat} (hi : i < n) (hz : L t i = 0) (htu : t ≤ u) (hu : u ≤ N) : L u i = 0 := by
  have h1 := h.down hi (u - t) t (by omega)
  rw [show t + (u - t) = u by omega] at h1
  have h2 := h.nneg u i hu hi
  omega

/-- The busy time: where all that comes within w takes w at most, there is a quiet time within w. -/
theorem Run.busy {n N : Nat} {r x : Nat → Int} {H : Nat → Prop} [DecidablePred H] {L : Nat → Nat → Int} (h : Run n N r x H L) {t0 w : Nat} (hq : Quiet n r H L t0) (hw : 1 ≤ w) (hN : t0 + w ≤ N)
    (hs : sumN n (fun i => if H i ∧ (t0 : Int) ≤ r i ∧ r i < ((t0 + w : Nat) : Int) then x i else 0) ≤ (w : Int)) : ∃ q, t0 < q ∧ q ≤ t0 + w ∧ Quiet n r H L q := by
  apply Classical.byContradiction
  intro hno
  have hno' : ∀ q, t0 < q → q ≤ t0 + w → ¬ Quiet n r H L q := fun q h1 h2 h3 => hno ⟨q, h1, h2, h3⟩
  let S : Nat → Int := fun t => sumN n (fun i => if H i ∧ (t0 : Int) ≤ r i ∧ r i < ((t0 + w : Nat) : Int) then L t i else 0)
  have key : ∀ d, d ≤ w → S (t0 + d) = S t0 - (d : Int) := by
    intro d
    induction d with
    | zero => intro _; show S t0 = _; omega
    | succ d ih =>
      intro hd
      have hbad := hno' (t0 + d + 1) (by omega) (by omega)
      have hnone : ¬ ∀ i, i < n → H i → r i ≤ ((t0 + d : Nat) : Int) → L (t0 + d) i = 0 := fun hall => hbad fun i hi hHi hr => by
        have hz := hall i hi hHi (by omega)
        exact h.zero hi hz (Nat.le_succ _) (by omega)
      rcases h.step (t0 + d) (by omega) with ⟨-, h2⟩ | ⟨k, hk, hrk, hpos, h3, h4, h5⟩
      · exact absurd h2 hnone
      · rcases h5 with h5 | h5
        · have hlow : (t0 : Int) ≤ r k := by
            apply Classical.byContradiction
            intro hc
            have hz := hq k hk h5 (by omega)
            have := h.zero hk hz (Nat.le_add_right t0 d) (by omega)
            omega
          have hin : H k ∧ (t0 : Int) ≤ r k ∧ r k < ((t0 + w : Nat) : Int) := ⟨h5, hlow, by omega⟩
          have : S (t0 + d + 1) = S (t0 + d) - 1 := by
            refine sumN_one n k hk ?_ (fun i hi hne => ?_)
            · rw [if_pos hin, if_pos hin, h3]
            · rw [h4 i hi hne]
          rw [show t0 + (d + 1) = t0 + d + 1 by omega, this, ih (by omega)]
          omega
        · exact absurd h5 hnone
  have hw0 := key w (Nat.le_refl w)
  have hS0 : S t0 ≤ (w : Int) := by
    refine Int.le_trans (sumN_le n (fun i hi => ?_)) hs
    by_cases hc : H i ∧ (t0 : Int) ≤ r i ∧ r i < ((t0 + w : Nat) : Int)
    · rw [if_pos hc, if_pos hc]
      have h1 := h.down hi t0 0 (by omega)
      rw [Nat.zero_add, h.init i hi] at h1
      exact h1
    · rw [if_neg hc, if_neg hc]; exact Int.le_refl _
  refine hno' (t0 + w) (by omega) (Nat.le_refl _) (fun i hi hHi hr => ?_)
  by_cases hlow : r i < (t0 : Int)
  · exact h.zero hi (hq i hi hHi hlow) (by omega) hN
  · have he := sumN_each n (f := fun i => if H i ∧ (t0 : Int) ≤ r i ∧ r i < ((t0 + w : Nat) : Int) then L (t0 + w) i else 0) (fun i hi => by
      split
      · exact h.nneg _ i hN hi
      · exact Int.le_refl _) (by show S (t0 + w) ≤ 0; omega) i hi
    have hin : H i ∧ (t0 : Int) ≤ r i ∧ r i < ((t0 + w : Nat) : Int) := ⟨hHi, by omega, hr⟩
    rw [if_pos hin] at he
    exact he

theorem last_quiet {n : Nat} {r : Nat → Int} {H : Nat → Prop} {L : Nat → Nat → Int} (h0 : ∀ i, i < n → 0 ≤ r i) : ∀ m : Nat, ∃ t0, t0 ≤ m ∧ Quiet n r H L t0 ∧ ∀ q, t0 < q → q ≤ m → ¬ Quiet n r H L q
  | 0 => ⟨0, Nat.le_refl _, fun i hi _ hr => by have := h0 i hi; omega, fun q h1 h2 => by omega⟩
  | m + 1 => by
    by_cases hq : Quiet n r H L (m + 1)
    · exact ⟨m + 1, Nat.le_refl _, hq, fun q h1 h2 => by omega⟩
    · obtain ⟨t0, h1, h2, h3⟩ := last_quiet h0 m
      refine ⟨t0, by omega, h2, fun q g1 g2 => ?_⟩
      by_cases e : q = m + 1
      · subst e; exact hq
      · exact h3 q g1 (by omega)

/-- Where a job isn't done when it is due, there was too much to do. -/
theorem Run.late {n N : Nat} {r x : Nat → Int} {H : Nat → Prop} [DecidablePred H] {L : Nat → Nat → Int} (h : Run n N r x H L) {i m dd : Nat} (hi : i < n) (hH : H i) (hm : r i = (m : Int)) (hmd : m ≤ dd) (hN : dd ≤ N) (hx : ∀ k, k < n → 1 ≤ x k) (hl : L dd i ≠ 0) :
    ∃ t0 : Nat, t0 ≤ m ∧ (dd : Int) - (t0 : Int) < sumN n (fun k => if H k ∧ (t0 : Int) ≤ r k then x k else 0) := by
  obtain ⟨t0, h1, h2, h3⟩ := last_quiet (H := H) (L := L) h.r0 m
  refine ⟨t0, h1, ?_⟩
  apply Classical.byContradiction
  intro hc
  have hnn : ∀ k, k < n → 0 ≤ (fun k => if H k ∧ (t0 : Int) ≤ r k then x k else 0) k := fun k hk => by
    have := hx k hk
    dsimp only
    split <;> omega
  by_cases hw : dd = t0
  · have he := sumN_each n hnn (by omega) i hi
    have := hx i hi
    rw [if_pos ⟨hH, by omega⟩] at he
    omega
  · have hle : sumN n (fun k => if H k ∧ (t0 : Int) ≤ r k ∧ r k < ((t0 + (dd - t0) : Nat) : Int) then x k else 0) ≤ sumN n (fun k => if H k ∧ (t0 : Int) ≤ r k then x k else 0) := sumN_le n (fun k hk => by
      have := hx k hk
      by_cases hcc : H k ∧ (t0 : Int) ≤ r k ∧ r k < ((t0 + (dd - t0) : Nat) : Int)
      · rw [if_pos hcc, if_pos ⟨hcc.1, hcc.2.1⟩]; exact Int.le_refl _
      · rw [if_neg hcc]; split <;> omega)
    obtain ⟨q, g1, g2, g3⟩ := h.busy h2 (w := dd - t0) (by omega) (by omega) (by omega)
    have hqm : m < q := by
      apply Classical.byContradiction
      intro hcm
      exact h3 q g1 (by omega) g3
    exact hl (h.zero hi (g3 i hi hH (by omega)) (by omega) hN)
end Go.Proofs.Ytdhnjemgnlklkag.FK
