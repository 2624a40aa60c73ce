import Derived.Test.YtkafihaajpifoafRows
import Derived.Test.YtkafihaajpifoafSPX
import Derived.Test.YtkafihaajpifoafJJ
import Derived.Test.YtkafihaajpifoafXE
import Derived.Test.YtkafihaajpifoafSLA
namespace Go.Proofs.Ytkafihaajpifoaf.FK

/- Sums over the first n. -/
def sumN : Nat → (Nat → Int) → Int
  | 0, _ => 0
  | n + 1, f => sumN n f + f n

theorem sumN_le : ∀ (n : Nat) {f g : Nat → Int}, (∀ i, i < n → f i ≤ g i) → sumN n f ≤ sumN n g
  | 0, _, _, _ => Int.le_refl _
  | n + 1, f, g, h => by
    have h1 := sumN_le n (f := f) (g := g) (fun i hi => h i (by omega))
    have h2 := h n (by omega)
    unfold sumN
    omega

theorem sumN_eq : ∀ (n : Nat) {f g : Nat → Int}, (∀ i, i < n → f i = g i) → sumN n f = sumN n g
  | 0, _, _, _ => rfl
  | n + 1, f, g, h => by
    unfold sumN
    rw [sumN_eq n (fun i hi => h i (by omega)), h n (by omega)]

theorem sumN_nonneg (n : Nat) {f : Nat → Int} (h : ∀ i, i < n → 0 ≤ f i) : 0 ≤ sumN n f := by
  have : sumN n (fun _ => 0) = 0 := by
    induction n with
    | zero => rfl
    | succ n ih => unfold sumN; rw [ih (fun i hi => h i (by omega))]; rfl
  rw [← this]
  exact sumN_le n h

theorem sumN_each : ∀ (n : Nat) {f : Nat → Int}, (∀ i, i < n → 0 ≤ f i) → sumN n f ≤ 0 → ∀ i, i < n → f i = 0
  | 0, _, _, _, i, hi => by omega
  | n + 1, f, h, hs, i, hi => by
    have h1 := sumN_nonneg n (f := f) (fun i hi => h i (by omega))
    have h2 := h n (by omega)
    unfold sumN at hs
    by_cases e : i = n
    · subst e; omega
    · exact sumN_each n (fun i hi => h i (by omega)) (by omega) i (by omega)

theorem sumN_one : ∀ (n : Nat) {f g : Nat → Int} (k : Nat), k < n → g k = f k - 1 → (∀ i, i < n → i ≠ k → g i = f i) → sumN n g = sumN n f - 1
  | 0, _, _, k, hk, _, _ => by omega
  | n + 1, f, g, k, hk, h1, h2 => by
    unfold sumN
    by_cases e : k = n
    · subst e
      rw [sumN_eq k (f := g) (g := f) (fun i hi => h2 i (by omega) (by omega)), h1]
      omega
    · rw [sumN_one n k (by omega) h1 (fun i hi hn => h2 i (by omega) hn), h2 n (by omega) (by omega)]
      omega

theorem sumN_add (n : Nat) (f g : Nat → Int) : sumN n (fun i => f i + g i) = sumN n f + sumN n g := by
  induction n with
  | zero => rfl
  | succ n ih => unfold sumN; rw [ih]; dsimp only; omega

theorem sumN_swap (n m : Nat) (A : Nat → Nat → Int) : sumN n (fun i => sumN m (fun k => A i k)) = sumN m (fun k => sumN n (fun i => A i k)) := by
  induction n with
  | zero =>
    show (0 : Int) = sumN m (fun _ => 0)
    induction m with
    | zero => rfl
    | succ m ih => unfold sumN; rw [← ih]; rfl
  | succ n ih =>
    show sumN n (fun i => sumN m (fun k => A i k)) + sumN m (fun k => A n k) = sumN m (fun k => sumN n (fun i => A i k) + A n k)
    rw [ih, sumN_add]

theorem sumN_pick : ∀ (m : Nat) (k0 : Nat) (v : Int), k0 < m → sumN m (fun k => if k = k0 then v else 0) = v
  | 0, k0, v, h => by omega
  | m + 1, k0, v, h => by
    unfold sumN
    dsimp only
    by_cases e : k0 = m
    · subst e
      rw [if_pos rfl, sumN_eq k0 (g := fun _ => 0) (fun i hi => if_neg (by omega))]
      have : sumN k0 (fun _ => 0) = 0 := by
        clear h
        induction k0 with
        | zero => rfl
        | succ n ih => unfold sumN; rw [ih]; rfl
      rw [this]; omega
    · rw [if_neg (by omega), sumN_pick m k0 v (by omega)]
      omega

/- Jobs that are played: r when they are there, x how long they take, L what is left of each, tick by tick; H those that go ahead. -/
structure Run (n N : Nat) (r x : Nat → Int) (H : Nat → Prop) (L : Nat → Nat → Int) : Prop where
  r0 : ∀ i, i < n → 0 ≤ r i
  init : ∀ i, i < n → L 0 i = x i
  nneg : ∀ t i, t ≤ N → i < n → 0 ≤ L t i
  step : ∀ t, t < N → ((∀ i, i < n → L (t + 1) i = L t i) ∧ ∀ i, i < n → H i → r i ≤ t → L t i = 0) ∨
    ∃ k, k < n ∧ r k ≤ t ∧ 0 < L t k ∧ L (t + 1) k = L t k - 1 ∧ (∀ i, i < n → i ≠ k → L (t + 1) i = L t i) ∧ (H k ∨ ∀ i, i < n → H i → r i ≤ t → L t i = 0)

def Quiet (n : Nat) (r : Nat → Int) (H : Nat → Prop) (L : Nat → Nat → Int) (t : Nat) : Prop := ∀ i, i < n → H i → r i < t → L t i = 0

theorem Run.down {n N : Nat} {r x : Nat → Int} {H : Nat → Prop} {L : Nat → Nat → Int} (h : Run n N r x H L) {i : Nat} (hi : i < n) : ∀ (d t : Nat), t + d ≤ N → L (t + d) i ≤ L t i
  | 0, t, _ => Int.le_refl _
  | d + 1, t, ht => by
    have h1 := h.down hi d t (by omega)
    have : L (t + d + 1) i ≤ L (t + d) i := by
      rcases h.step (t + d) (by omega) with ⟨h2, -⟩ | ⟨k, hk, -, -, h3, h4, -⟩
      · rw [h2 i hi]; exact Int.le_refl _
      · by_cases e : i = k
        · subst e; omega
        · rw [h4 i hi e]; exact Int.le_refl _
    rw [show t + (d + 1) = t + d + 1 by omega]
    omega

theorem Run.zero {n N : Nat} {r x : Nat → Int} {H : Nat → Prop} {L : Nat → Nat → Int} (h : Run n N r x H L) {i t u : Nat} (hi : i < n) (hz : L t i = 0) (htu : t ≤ u) (hu : u ≤ N) : L u i = 0 := by
  have h1 := h.down hi (u - t) t (by omega)
  rw [show t + (u - t) = u by omega] at h1
  have h2 := h.nneg u i hu hi
  omega

/-- The busy time: where all that comes within w takes w at most, there is a quiet time within w. -/
theorem Run.busy {n N : Nat} {r x : Nat → Int} {H : Nat → Prop} [DecidablePred H] {L : Nat → Nat → Int} (h : Run n N r x H L) {t0 w : Nat} (hq : Quiet n r H L t0) (hw : 1 ≤ w) (hN : t0 + w ≤ N)
    (hs : sumN n (fun i => if H i ∧ (t0 : Int) ≤ r i ∧ r i < ((t0 + w : Nat) : Int) then x i else 0) ≤ (w : Int)) : ∃ q, t0 < q ∧ q ≤ t0 + w ∧ Quiet n r H L q := by
  apply Classical.byContradiction
  intro hno
  have hno' : ∀ q, t0 < q → q ≤ t0 + w → ¬ Quiet n r H L q := fun q h1 h2 h3 => hno ⟨q, h1, h2, h3⟩
  let S : Nat → Int := fun t => sumN n (fun i => if H i ∧ (t0 : Int) ≤ r i ∧ r i < ((t0 + w : Nat) : Int) then L t i else 0)
  have key : ∀ d, d ≤ w → S (t0 + d) = S t0 - (d : Int) := by
    intro d
    induction d with
    | zero => intro _; show S t0 = _; omega
    | succ d ih =>
      intro hd
      have hbad := hno' (t0 + d + 1) (by omega) (by omega)
      have hnone : ¬ ∀ i, i < n → H i → r i ≤ ((t0 + d : Nat) : Int) → L (t0 + d) i = 0 := fun hall => hbad fun i hi hHi hr => by
        have hz := hall i hi hHi (by omega)
        exact h.zero hi hz (Nat.le_succ _) (by omega)
      rcases h.step (t0 + d) (by omega) with ⟨-, h2⟩ | ⟨k, hk, hrk, hpos, h3, h4, h5⟩
      · exact absurd h2 hnone
      · rcases h5 with h5 | h5
        · have hlow : (t0 : Int) ≤ r k := by
            apply Classical.byContradiction
            intro hc
            have hz := hq k hk h5 (by omega)
            have := h.zero hk hz (Nat.le_add_right t0 d) (by omega)
            omega
          have hin : H k ∧ (t0 : Int) ≤ r k ∧ r k < ((t0 + w : Nat) : Int) := ⟨h5, hlow, by omega⟩
          have : S (t0 + d + 1) = S (t0 + d) - 1 := by
            refine sumN_one n k hk ?_ (fun i hi hne => ?_)
            · rw [if_pos hin, if_pos hin, h3]
            · rw [h4 i hi hne]
          rw [show t0 + (d + 1) = t0 + d + 1 by omega, this, ih (by omega)]
          omega
        · exact absurd h5 hnone
  have hw0 := key w (Nat.le_refl w)
  have hS0 : S t0 ≤ (w : Int) := by
    refine Int.le_trans (sumN_le n (fun i hi => ?_)) hs
    by_cases hc : H i ∧ (t0 : Int) ≤ r i ∧ r i < ((t0 + w : Nat) : Int)
    · rw [if_pos hc, if_pos hc]
      have h1 := h.down hi t0 0 (by omega)
      rw [Nat.zero_add, h.init i hi] at h1
      exact h1
    · rw [if_neg hc, if_neg hc]; exact Int.le_refl _
  refine hno' (t0 + w) (by omega) (Nat.le_refl _) (fun i hi hHi hr => ?_)
  by_cases hlow : r i < (t0 : Int)
  · exact h.zero hi (hq i hi hHi hlow) (by omega) hN
  · have he := sumN_each n (f := fun i => if H i ∧ (t0 : Int) ≤ r i ∧ r i < ((t0 + w : Nat) : Int) then L (t0 + w) i else 0) (fun i hi => by
      split
      · exact h.nneg _ i hN hi
      · exact Int.le_refl _) (by show S (t0 + w) ≤ 0; omega) i hi
    have hin : H i ∧ (t0 : Int) ≤ r i ∧ r i < ((t0 + w : Nat) : Int) := ⟨hHi, by omega, hr⟩
    rw [if_pos hin] at he
    exact he

theorem last_quiet {n : Nat} {r : Nat → Int} {H : Nat → Prop} {L : Nat → Nat → Int} (h0 : ∀ i, i < n → 0 ≤ r i) : ∀ m : Nat, ∃ t0, t0 ≤ m ∧ Quiet n r H L t0 ∧ ∀ q, t0 < q → q ≤ m → ¬ Quiet n r H L q
  | 0 => ⟨0, Nat.le_refl _, fun i hi _ hr => by have := h0 i hi; omega, fun q h1 h2 => by omega⟩
  | m + 1 => by
    by_cases hq : Quiet n r H L (m + 1)
    · exact ⟨m + 1, Nat.le_refl _, hq, fun q h1 h2 => by omega⟩
    · obtain ⟨t0, h1, h2, h3⟩ := last_quiet h0 m
      refine ⟨t0, by omega, h2, fun q g1 g2 => ?_⟩
      by_cases e : q = m + 1
      · subst e; exact hq
      · exact h3 q g1 (by omega)

/-- Each job that goes ahead is done within w of its being there. -/
theorem Run.done {n N : Nat} {r x : Nat → Int} {H : Nat → Prop} [DecidablePred H] {L : Nat → Nat → Int} (h : Run n N r x H L) {i m w : Nat} (hi : i < n) (hH : H i) (hm : r i = (m : Int)) (hw : 1 ≤ w) (hN : m + w ≤ N)
    (hs : ∀ t0 : Nat, t0 ≤ m → sumN n (fun i => if H i ∧ (t0 : Int) ≤ r i ∧ r i < ((t0 + w : Nat) : Int) then x i else 0) ≤ (w : Int)) : L (m + w) i = 0 := by
  obtain ⟨t0, h1, h2, h3⟩ := last_quiet (H := H) (L := L) h.r0 m
  obtain ⟨q, g1, g2, g3⟩ := h.busy h2 hw (by omega) (hs t0 h1)
  have hqm : m < q := by
    apply Classical.byContradiction
    intro hc
    exact h3 q g1 (by omega) g3
  exact h.zero hi (g3 i hi hH (by omega)) (by omega) hN

/- How many of one task come within a time. -/
theorem come_count {n : Nat} {a r x : Nat → Int} {M : Nat → Prop} [DecidablePred M] {t0 w J T C : Int} (hT : 0 < T) (hC : 0 ≤ C)
    (hM : ∀ i, i < n → M i → t0 ≤ r i ∧ r i < t0 + w ∧ a i ≤ r i ∧ r i ≤ a i + J ∧ x i ≤ C)
    (hsp : ∀ i j, i < j → j < n → M i → M j → a i + T ≤ a j) : ∀ m, m ≤ n → ∃ c : Nat, sumN m (fun i => if M i then x i else 0) ≤ (c : Int) * C ∧ (c = 0 ∧ (∀ i, i < m → ¬ M i) ∨ 1 ≤ c ∧ ∃ i, i < m ∧ M i ∧ (∀ j, i < j → j < m → ¬ M j) ∧ (t0 - J) + ((c : Int) - 1) * T ≤ a i)
  | 0, _ => ⟨0, by simp [sumN], .inl ⟨rfl, fun i hi => by omega⟩⟩
  | m + 1, hm => by
    obtain ⟨c, h1, h2⟩ := come_count hT hC hM hsp m (by omega)
    by_cases hc : M m
    · have hmm := hM m (by omega) hc
      refine ⟨c + 1, ?_, .inr ⟨by omega, m, by omega, hc, fun j g1 g2 => by omega, ?_⟩⟩
      · show sumN m _ + (if M m then x m else 0) ≤ _
        rw [if_pos hc]
        have e : ((c + 1 : Nat) : Int) * C = (c : Int) * C + C := by rw [Int.natCast_succ, Int.add_mul]; omega
        rw [e]
        omega
      · rcases h2 with ⟨rfl, -⟩ | ⟨hc1, i, hi, hMi, -, ha⟩
        · have e : (((0 + 1 : Nat) : Int) - 1) * T = 0 := by simp
          rw [e]
          omega
        · have := hsp i m hi (by omega) hMi hc
          have e : (((c + 1 : Nat) : Int) - 1) * T = ((c : Int) - 1) * T + T := by
            rw [show (((c + 1 : Nat) : Int) - 1) = ((c : Int) - 1) + 1 by omega, Int.add_mul]
            omega
          rw [e]
          omega
    · refine ⟨c, ?_, ?_⟩
      · show sumN m _ + (if M m then x m else 0) ≤ _
        rw [if_neg hc]
        omega
      · rcases h2 with ⟨h2, h3⟩ | ⟨hc1, i, hi, hMi, hl, ha⟩
        · refine .inl ⟨h2, fun i hi => ?_⟩
          by_cases e : i = m
          · subst e; exact hc
          · exact h3 i (by omega)
        · refine .inr ⟨hc1, i, by omega, hMi, fun j g1 g2 => ?_, ha⟩
          by_cases e : j = m
          · subst e; exact hc
          · exact hl j g1 (by omega)

/-- All of one task within a time: as many as come, rounded up, times C. -/
theorem come_sum {n : Nat} {a r x : Nat → Int} {M : Nat → Prop} [DecidablePred M] {t0 w J T C : Int} (hT : 0 < T) (hC : 0 ≤ C) (hJ : 0 ≤ J) (hw : 0 ≤ w)
    (hM : ∀ i, i < n → M i → t0 ≤ r i ∧ r i < t0 + w ∧ a i ≤ r i ∧ r i ≤ a i + J ∧ x i ≤ C)
    (hsp : ∀ i j, i < j → j < n → M i → M j → a i + T ≤ a j) : sumN n (fun i => if M i then x i else 0) ≤ (w + J + T - 1) / T * C ∧ (w + J ≤ T → sumN n (fun i => if M i then x i else 0) ≤ C) := by
  obtain ⟨c, h1, h2⟩ := come_count hT hC hM hsp n (Nat.le_refl n)
  have hcT : ((c : Int) - 1) * T < w + J ∨ c = 0 := by
    rcases h2 with ⟨h2, -⟩ | ⟨hc1, i, hi, hMi, -, ha⟩
    · exact .inr h2
    · have := hM i hi hMi
      exact .inl (by omega)
  constructor
  · refine Int.le_trans h1 (Int.mul_le_mul_of_nonneg_right ?_ hC)
    rcases hcT with hcT | rfl
    · rw [Int.le_ediv_iff_mul_le hT]
      have e : ((c : Int) - 1) * T = (c : Int) * T - T := by rw [Int.sub_mul]; omega
      omega
    · exact Int.ediv_nonneg (by omega) (by omega)
  · intro hwJ
    have hc1 : (c : Int) ≤ 1 := by
      rcases hcT with hcT | rfl
      · apply Classical.byContradiction
        intro hgt
        have : 1 * T ≤ ((c : Int) - 1) * T := Int.mul_le_mul_of_nonneg_right (by omega) (by omega)
        omega
      · omega
    have : (c : Int) * C ≤ 1 * C := Int.mul_le_mul_of_nonneg_right hc1 hC
    omega

/-- All tasks together. -/
theorem all_sum {n m : Nat} {a r x : Nat → Int} {kt : Nat → Nat} {Hk : Nat → Prop} [DecidablePred Hk] {J T C : Nat → Int} {k0 t0 w : Nat}
    (hk : ∀ i, i < n → kt i < m) (hk0 : k0 < m) (hw : 1 ≤ w) (hpos : ∀ k, k < m → 0 < T k ∧ 0 ≤ C k ∧ 0 ≤ J k)
    (hx : ∀ i, i < n → a i ≤ r i ∧ r i ≤ a i + J (kt i) ∧ x i ≤ C (kt i))
    (hsp : ∀ i j, i < j → j < n → kt i = kt j → a i + T (kt i) ≤ a j) (hown : (w : Int) + J k0 ≤ T k0) :
    sumN n (fun i => if Hk (kt i) ∧ (t0 : Int) ≤ r i ∧ r i < ((t0 + w : Nat) : Int) then x i else 0) ≤ C k0 + sumN m (fun k => if k ≠ k0 ∧ Hk k then ((w : Int) + J k + T k - 1) / T k * C k else 0) := by
  have e1 : sumN n (fun i => if Hk (kt i) ∧ (t0 : Int) ≤ r i ∧ r i < ((t0 + w : Nat) : Int) then x i else 0) = sumN n (fun i => sumN m (fun k => if Hk k then (if kt i = k ∧ (t0 : Int) ≤ r i ∧ r i < ((t0 + w : Nat) : Int) then x i else 0) else 0)) := by
    refine sumN_eq n (fun i hi => ?_)
    rw [← sumN_pick m (kt i) (if Hk (kt i) ∧ (t0 : Int) ≤ r i ∧ r i < ((t0 + w : Nat) : Int) then x i else 0) (hk i hi)]
    refine sumN_eq m (fun k _ => ?_)
    by_cases e : k = kt i
    · subst e
      rw [if_pos rfl]
      by_cases h1 : Hk (kt i)
      · simp [h1]
      · simp [h1]
    · rw [if_neg e]
      have : ¬ kt i = k := fun h => e h.symm
      simp [this]
  rw [e1, sumN_swap]
  have e2 : C k0 + sumN m (fun k => if k ≠ k0 ∧ Hk k then ((w : Int) + J k + T k - 1) / T k * C k else 0) = sumN m (fun k => (if k = k0 then C k0 else 0) + (if k ≠ k0 ∧ Hk k then ((w : Int) + J k + T k - 1) / T k * C k else 0)) := by
    rw [sumN_add, sumN_pick m k0 (C k0) hk0]
  rw [e2]
  refine sumN_le m (fun k hkm => ?_)
  obtain ⟨hT, hC, hJ⟩ := hpos k hkm
  have hc := come_sum (n := n) (a := a) (r := r) (x := x) (M := fun i => kt i = k ∧ (t0 : Int) ≤ r i ∧ r i < ((t0 + w : Nat) : Int)) (t0 := t0) (w := w) hT hC hJ (by omega) (fun i hi hMi => by
    obtain ⟨rfl, g1, g2⟩ := hMi
    obtain ⟨b1, b2, b3⟩ := hx i hi
    exact ⟨g1, by omega, b1, b2, b3⟩) (fun i j hij hj hMi hMj => by
    obtain ⟨rfl, -⟩ := hMi
    exact hsp i j hij hj hMj.1.symm)
  have hup : 0 ≤ ((w : Int) + J k + T k - 1) / T k * C k := Int.mul_nonneg (Int.ediv_nonneg (by omega) (by omega)) hC
  show sumN n (fun i => if Hk k then _ else 0) ≤ _
  by_cases hHk : Hk k
  · have e3 : sumN n (fun i => if Hk k then (if kt i = k ∧ (t0 : Int) ≤ r i ∧ r i < ((t0 + w : Nat) : Int) then x i else 0) else 0) = sumN n (fun i => if kt i = k ∧ (t0 : Int) ≤ r i ∧ r i < ((t0 + w : Nat) : Int) then x i else 0) := sumN_eq n (fun i _ => if_pos hHk)
    rw [e3]
    by_cases e : k = k0
    · subst e
      have := hc.2 hown
      simp
      exact this
    · rw [if_neg e, if_pos ⟨e, hHk⟩]
      have := hc.1
      omega
  · have e3 : sumN n (fun i => if Hk k then (if kt i = k ∧ (t0 : Int) ≤ r i ∧ r i < ((t0 + w : Nat) : Int) then x i else 0) else 0) = 0 := by
      rw [sumN_eq n (g := fun _ => 0) (fun i _ => if_neg hHk)]
      clear e1 e2 hc hsp hx hk
      induction n with
      | zero => rfl
      | succ n ih => unfold sumN; rw [ih]; rfl
    rw [e3]
    have : 0 ≤ C k0 := (hpos k0 hk0).2.1
    by_cases e : k = k0
    · rw [if_pos e, if_neg (by simp [e])]; omega
    · rw [if_neg e, if_neg (by simp [hHk])]; omega
end Go.Proofs.Ytkafihaajpifoaf.FK
namespace Go.Proofs.Ytkafihaajpifoaf
open Go.ChangeShapes Go.WideShapes Go.ChangeAt Go.RowKit

/- How jobs are played, as a run. -/
theorem plays_seq {l : List Jb} {pol : Int} {pre : Bool} : ∀ (t : Nat) (s : S8.St), S8.Plays l pol pre t s → ∃ f : Nat → S8.St, f t = s ∧ (∀ u, u ≤ t → S8.Plays l pol pre u (f u)) ∧ ∀ u, u < t → ∃ b, S8.Pick l pol pre u (f u) b ∧ f (u + 1) = (f u).after u b
  | 0, s, h => ⟨fun _ => s, rfl, fun u hu => by rw [show u = 0 by omega]; exact h, fun u hu => by omega⟩
  | t + 1, s, h => by
    obtain ⟨s0, b, h1, h2, h3⟩ := id h
    obtain ⟨f, e, hp, hs⟩ := plays_seq t s0 h1
    refine ⟨fun u => if u ≤ t then f u else s, by dsimp only; rw [if_neg (by omega)], fun u hu => ?_, fun u hu => ?_⟩
    · dsimp only
      by_cases hc : u ≤ t
      · rw [if_pos hc]; exact hp u hc
      · rw [if_neg hc, show u = t + 1 by omega]; exact h
    · dsimp only
      by_cases hc : u + 1 ≤ t
      · rw [if_pos hc, if_pos (show u ≤ t by omega)]
        exact hs u (by omega)
      · have hu' : u = t := by omega
        subst hu'
        rw [if_neg hc, if_pos (Nat.le_refl u), e]
        exact ⟨b, h2, h3⟩

theorem after_some {s : S8.St} {t i : Nat} : s.after t (i : Int) = ⟨s.left.set i (S8.L s.left i - 1), if S8.L s.left i - 1 = 0 then s.ends.set i ((t : Int) + 1) else s.ends, s.runs ++ [(i : Int)]⟩ := by
  unfold S8.St.after
  rw [if_neg (by omega), Int.toNat_natCast]

theorem run_of {js : List Jb} {N : Nat} {f : Nat → S8.St} (hok : ∀ x ∈ js, S8.okJ x) (hp : ∀ u, u ≤ N → S8.Plays js 1 true u (f u)) (hs : ∀ u, u < N → ∃ b, S8.Pick js 1 true u (f u) b ∧ f (u + 1) = (f u).after u b) (P0 : Int) :
    FK.Run js.length N (fun i => (S8.J js i).a) (fun i => (S8.J js i).c) (fun i => P0 ≤ (S8.J js i).p) (fun t i => S8.L (f t).left i) := by
  have hO : ∀ u, u ≤ N → S8.Ok js u (f u) := fun u hu => S8.plays_ok hok u _ (hp u hu)
  have hJ : ∀ i, i < js.length → S8.okJ (S8.J js i) ∧ js[i]? = some (S8.J js i) := fun i hi => by
    have e : js[i]? = some (S8.J js i) := by unfold S8.J; rw [List.getD_eq_getElem?_getD]; simp [hi]
    exact ⟨hok _ (List.mem_of_getElem? e), e⟩
  refine ⟨fun i hi => (hJ i hi).1.1, fun i hi => ?_, fun t i ht hi => (hO t ht).nneg i, fun t ht => ?_⟩
  · have h0 : f 0 = S8.St.init js := hp 0 (Nat.zero_le _)
    show S8.L (f 0).left i = _
    rw [h0]
    unfold S8.L S8.St.init
    dsimp only
    rw [List.getD_eq_getElem?_getD, List.getElem?_map, (hJ i hi).2]
    rfl
  · obtain ⟨b, hb, he⟩ := hs t ht
    have hn := (hO t (by omega)).nneg
    have hl := (hO t (by omega)).left
    rcases hb with ⟨h, -⟩ | ⟨-, hb⟩
    · cases h
    rcases hb with ⟨rfl, hb⟩ | ⟨k, rfl, hk, h1, h2, h3⟩
    · refine .inl ⟨fun i hi => ?_, fun i hi _ hr => ?_⟩
      · show S8.L (f (t + 1)).left i = _
        rw [he]; rfl
      · have := hb i hi
        have := hn i
        show S8.L (f t).left i = 0
        omega
    · have hL : ∀ j, S8.L (f (t + 1)).left j = if j = k then S8.L (f t).left k - 1 else S8.L (f t).left j := fun j => by
        rw [he, after_some]
        exact S8.L_set (by rw [hl]; exact hk)
      refine .inr ⟨k, hk, h1, h2, ?_, fun i hi hne => ?_, ?_⟩
      · show S8.L (f (t + 1)).left k = _
        rw [hL, if_pos rfl]
      · show S8.L (f (t + 1)).left i = _
        rw [hL, if_neg hne]
      · by_cases hH : P0 ≤ (S8.J js k).p
        · exact .inl hH
        · refine .inr fun i hi hHi hr => ?_
          apply Classical.byContradiction
          intro hne
          have hpos : 0 < S8.L (f t).left i := by have := hn i; have : ¬ S8.L (f t).left i = 0 := hne; omega
          have hik : i ≠ k := fun e => by subst e; exact hH hHi
          have := h3 i hi hr hpos hik
          unfold S8.lexJ S8.lex S8.key at this
          simp only [if_true] at this
          have hHi' : P0 ≤ (S8.J js i).p := hHi
          omega

theorem ends_of {js : List Jb} {N : Nat} {f : Nat → S8.St} (hok : ∀ x ∈ js, S8.okJ x) (hp : ∀ u, u ≤ N → S8.Plays js 1 true u (f u)) (hs : ∀ u, u < N → ∃ b, S8.Pick js 1 true u (f u) b ∧ f (u + 1) = (f u).after u b) :
    ∀ u, u ≤ N → ∀ i, i < js.length → ∀ q, q ≤ u → S8.L (f q).left i = 0 → ∃ e, (f u).ends[i]? = some e ∧ 1 ≤ e ∧ e ≤ (q : Int) := by
  have R := run_of hok hp hs 0
  intro u
  induction u with
  | zero =>
    intro _ i hi q hq hz
    rw [show q = 0 by omega] at hz
    have h1 := R.init i hi
    have e : js[i]? = some (S8.J js i) := by unfold S8.J; rw [List.getD_eq_getElem?_getD]; simp [hi]
    have h2 := (hok _ (List.mem_of_getElem? e)).2.2.1
    have h3 : S8.L (f 0).left i = (S8.J js i).c := h1
    omega
  | succ u ih =>
    intro hu i hi q hq hz
    obtain ⟨b, hb, he⟩ := hs u (by omega)
    have hO := S8.plays_ok hok u _ (hp u (by omega))
    have hpick := S8.pick_rng hO hb
    by_cases hzu : S8.L (f u).left i = 0
    · have hq' : ∃ q', q' ≤ u ∧ q' ≤ q ∧ S8.L (f q').left i = 0 := by
        by_cases hqu : q ≤ u
        · exact ⟨q, hqu, Nat.le_refl _, hz⟩
        · exact ⟨u, Nat.le_refl _, by omega, hzu⟩
      obtain ⟨q', g1, g2, g3⟩ := hq'
      obtain ⟨e, h1, h2, h3⟩ := ih (by omega) i hi q' g1 g3
      refine ⟨e, ?_, h2, by omega⟩
      rw [he]
      rcases hpick with rfl | ⟨k, rfl, hk, hpos⟩
      · exact h1
      · rw [after_some]
        have hne : k ≠ i := fun e => by subst e; omega
        show (if S8.L (f u).left k - 1 = 0 then (f u).ends.set k ((u : Int) + 1) else (f u).ends)[i]? = some e
        split
        · rw [List.getElem?_set_ne hne]; exact h1
        · exact h1
    · have hqu : q = u + 1 := by
        apply Classical.byContradiction
        intro hne
        exact hzu (R.zero (t := q) (u := u) hi hz (by omega) (by omega))
      subst hqu
      rw [he] at hz ⊢
      rcases hpick with rfl | ⟨k, rfl, hk, hpos⟩
      · exact absurd hz hzu
      · rw [after_some] at hz ⊢
        dsimp only at hz ⊢
        rw [S8.L_set (by rw [hO.left]; exact hk)] at hz
        by_cases hik : i = k
        · subst hik
          rw [if_pos rfl] at hz
          rw [if_pos hz]
          refine ⟨(u : Int) + 1, ?_, by omega, by omega⟩
          rw [List.getElem?_set_self (by rw [hO.ends]; exact hk)]
        · rw [if_neg hik] at hz
          exact absurd hz hzu

/- The jobs of comings, one by one. -/
theorem jobsFrom_each {l : List Ta} : ∀ (cs : List Co) (acc : List Jb) (la tk : List Int) (i : Nat) (js : List Jb), la.length = cs.length → tk.length = cs.length → jobsFrom l acc cs la tk i = ((0, 0), js) →
    ∃ new : List Jb, js = acc ++ new ∧ new.length = cs.length ∧ ∀ (n : Nat) (c : Co), cs[n]? = some c → ∃ a b : Int, new[n]? = some (⟨c.k, c.a + a, b, c.a + (l.getD c.k.toNat ta0).d, (l.getD c.k.toNat ta0).p⟩ : Jb) ∧ 0 ≤ a ∧ a ≤ (l.getD c.k.toNat ta0).j ∧ 1 ≤ b ∧ b ≤ (l.getD c.k.toNat ta0).c
  | [], acc, la, tk, i, js, h1, h2, h => by
    rw [jobsFrom_end] at h
    refine ⟨[], ?_, rfl, fun n c hc => by simp at hc⟩
    simp at h
    simp [h]
  | c0 :: cs, acc, [], tk, i, js, h1, h2, h => by simp at h1
  | c0 :: cs, acc, a :: la, [], i, js, h1, h2, h => by simp at h2
  | c0 :: cs, acc, a :: la, b :: tk, i, js, h1, h2, h => by
    rw [jobsFrom] at h
    unfold jobOne at h
    by_cases hc : a < 0 ∨ (l.getD c0.k.toNat ta0).j < a ∨ b < 1 ∨ (l.getD c0.k.toNat ta0).c < b
    · rw [if_pos hc] at h
      simp at h
    · rw [if_neg hc] at h
      obtain ⟨new, g1, g2, g3⟩ := jobsFrom_each cs _ la tk (i + 1) js (by simpa using h1) (by simpa using h2) h
      refine ⟨_ :: new, by rw [g1, List.append_assoc]; rfl, by simp [g2], fun n c hn => ?_⟩
      cases n with
      | zero =>
        simp at hn
        subst hn
        exact ⟨a, b, rfl, by omega, by omega, by omega, by omega⟩
      | succ n => simpa using g3 n c (by simpa using hn)

theorem jobsF_ok {l : List Ta} {cs : List Co} {la tk : List Int} {js : List Jb} (h : jobsF l cs la tk = ((0, 0), js)) : (legF l cs).1 = 0 ∧ js.length = cs.length ∧ ∀ (n : Nat) (c : Co), cs[n]? = some c → ∃ a b : Int, js[n]? = some (⟨c.k, c.a + a, b, c.a + (l.getD c.k.toNat ta0).d, (l.getD c.k.toNat ta0).p⟩ : Jb) ∧ 0 ≤ a ∧ a ≤ (l.getD c.k.toNat ta0).j ∧ 1 ≤ b ∧ b ≤ (l.getD c.k.toNat ta0).c := by
  unfold jobsF at h
  by_cases h0 : (legF l cs).1 ≠ 0
  · rw [if_pos h0] at h
    simp at h
    exact absurd (by rw [h.1]) h0
  · rw [if_neg h0] at h
    by_cases h1 : la.length ≠ cs.length ∨ tk.length ≠ cs.length
    · rw [if_pos h1] at h; simp at h
    · rw [if_neg h1] at h
      obtain ⟨new, g1, g2, g3⟩ := jobsFrom_each cs [] la tk 0 js (by omega) (by omega) h
      rw [List.nil_append] at g1
      subst g1
      exact ⟨by omega, g2, g3⟩

theorem soonOf_cons2 {l : List Ta} {past : List Co} {c : Co} {k : Int} : soonOf l (c :: past) k = if c.k = k then c.a + (l.getD k.toNat ta0).t else soonOf l past k := by
  unfold soonOf lastOf
  rw [List.find?_cons]
  by_cases h : c.k = k
  · simp [h]
  · simp [h]

/-- Two comings of one task are T apart. -/
theorem leg_apart {l : List Ta} (hl : ∀ x ∈ l, stands x = true) : ∀ (r past : List Co) (i : Nat), (legFrom l past r i).1 = 0 → (∀ c ∈ past, c.a + (l.getD c.k.toNat ta0).t ≤ soonOf l past c.k) →
    (∀ c0 ∈ past, ∀ c ∈ r, c0.k = c.k → c0.a + (l.getD c.k.toNat ta0).t ≤ c.a) ∧ r.Pairwise (fun c0 c => c0.k = c.k → c0.a + (l.getD c.k.toNat ta0).t ≤ c.a)
  | [], _, _, _, _ => ⟨fun _ _ c hc => by simp at hc, List.Pairwise.nil⟩
  | x :: r, past, i, h, hp => by
    rw [legFrom] at h
    by_cases hx : legOne l past x = 0
    · rw [if_pos hx] at h
      have hr := legOne_ok hx
      have hs : soonOf l past x.k ≤ x.a := by
        unfold legOne at hx
        rw [if_neg (by omega), if_neg (by omega)] at hx
        apply Classical.byContradiction
        intro hc
        rw [if_pos (by omega)] at hx
        cases hx
      have hT : 1 ≤ (l.getD x.k.toNat ta0).t := (stands_t (stands_mem hl (k := x.k.toNat) (by omega))).1
      have hp' : ∀ c ∈ x :: past, c.a + (l.getD c.k.toNat ta0).t ≤ soonOf l (x :: past) c.k := fun c hc => by
        rw [soonOf_cons2]
        rcases List.mem_cons.1 hc with rfl | hc
        · rw [if_pos rfl]; exact Int.le_refl _
        · have h1 := hp c hc
          by_cases e : x.k = c.k
          · rw [if_pos e]
            rw [← e] at h1 ⊢
            omega
          · rw [if_neg e]; exact h1
      obtain ⟨g1, g2⟩ := leg_apart hl r (x :: past) (i + 1) h hp'
      refine ⟨fun c0 h0 c hc e => ?_, List.Pairwise.cons (fun c hc e => g1 x List.mem_cons_self c hc e) g2⟩
      rcases List.mem_cons.1 hc with rfl | hc
      · have := hp c0 h0
        rw [e] at this
        omega
      · exact g1 c0 (List.mem_cons_of_mem _ h0) c hc e
    · rw [if_neg hx] at h
      exact absurd h hx

theorem apart_of {l : List Ta} {cs : List Co} (h : (legF l cs).1 = 0) : ∀ (i j : Nat) (c c' : Co), i < j → cs[i]? = some c → cs[j]? = some c' → c.k = c'.k → c.a + (l.getD c'.k.toNat ta0).t ≤ c'.a := by
  have hk := legF_ok h
  have hl := (chkF_ok hk.1).2.2
  have h' : (legFrom l [] cs 0).1 = 0 := by
    unfold legF at h
    rw [if_neg (by have := hk.1; omega), if_neg (by have := hk.2.1; omega)] at h
    exact h
  have hp := (leg_apart hl cs [] 0 h' (fun c hc => by simp at hc)).2
  intro i j c c' hij hc hc' e
  rw [List.pairwise_iff_getElem] at hp
  obtain ⟨hi, rfl⟩ := List.getElem?_eq_some_iff.1 hc
  obtain ⟨hj, rfl⟩ := List.getElem?_eq_some_iff.1 hc'
  exact hp i j hi hj hij e

/- What is told. -/
theorem respsFrom_each {l : List Ta} : ∀ (bs : List Int) (k : Nat) (acc rs : List Int), respsFrom l bs k acc = (rs, (0, 0)) → ∃ new : List Int, rs = acc ++ new ∧ new.length = bs.length ∧ ∀ (n : Nat) (b : Int), bs[n]? = some b → new[n]? = some (respF l ((k + n : Nat) : Int) b).1 ∧ (respF l ((k + n : Nat) : Int) b).2.1 = 0
  | [], k, acc, rs, h => by
    unfold respsFrom at h
    simp at h
    exact ⟨[], by simp [h], rfl, fun n b hb => by simp at hb⟩
  | b0 :: r, k, acc, rs, h => by
    unfold respsFrom at h
    by_cases hz : (respF l (k : Int) b0).2.1 ≠ 0
    · rw [if_pos hz] at h
      simp at h
      exact absurd (by rw [h.2]) hz
    · rw [if_neg hz] at h
      obtain ⟨new, g1, g2, g3⟩ := respsFrom_each r (k + 1) _ rs h
      refine ⟨_ :: new, by rw [g1, List.append_assoc]; rfl, by simp [g2], fun n b hb => ?_⟩
      cases n with
      | zero =>
        simp at hb
        subst hb
        exact ⟨rfl, by simpa using hz⟩
      | succ n =>
        have := g3 n b (by simpa using hb)
        rw [show k + 1 + n = k + (n + 1) by omega] at this
        simpa using this

theorem sumO_sumN {A : Nat → Bool} {i : Nat} {w : Int} {l : List Ta} : ∀ (d k : Nat), k + d = l.length → FK.sumN l.length (fun k => if k ≠ i ∧ A k = true then up1 w (Tk l k) else 0) = FK.sumN k (fun k => if k ≠ i ∧ A k = true then up1 w (Tk l k) else 0) + sumO w (othF A i (l.drop k) k)
  | 0, k, h => by
    rw [show k = l.length by omega, List.drop_length]
    simp [othF, sumO]
  | d + 1, k, h => by
    obtain ⟨x, hx, hd⟩ := drop_at (l := l) (k := k) (by omega)
    rw [sumO_sumN d (k + 1) (by omega), othF_at hd]
    show FK.sumN k _ + (if k ≠ i ∧ A k = true then up1 w (Tk l k) else 0) + _ = _
    rw [Tk_at hx]
    by_cases hc : k ≠ i ∧ A k = true
    · rw [if_pos hc, if_pos hc, sumO]; omega
    · rw [if_neg hc, if_neg hc]; omega
end Go.Proofs.Ytkafihaajpifoaf
namespace Go.Proofs.Ytkafihaajpifoaf
open Go.ChangeShapes Go.WideShapes Go.ChangeAt Go.RowKit

theorem responsesF_split {l : List Ta} {bs rs : List Int} (h : responsesF l bs = (rs, (0, 0))) : (chkX l).1 = 0 ∧ bs.length = l.length ∧ respsFrom l bs 0 [] = (rs, (0, 0)) := by
  unfold responsesF at h
  by_cases h0 : (chkX l).1 ≠ 0
  · rw [if_pos h0] at h
    simp at h
    exact absurd (by rw [h.2]) h0
  · rw [if_neg h0] at h
    by_cases h1 : bs.length ≠ l.length
    · rw [if_pos h1] at h; simp at h
    · rw [if_neg h1] at h
      exact ⟨by omega, by omega, h⟩

theorem respF_some {l : List Ta} {k : Nat} (hk : k < l.length) (h : (respF l (k : Int) 0).2.1 = 0) : respR l k 0 ≠ 0 ∧ (respF l (k : Int) 0).1 = respR l k 0 := by
  have e : respF l (k : Int) 0 = if respR l k 0 = 0 then (0, (13, (k : Int))) else (respR l k 0, (0, 0)) := by
    unfold respF
    rw [if_neg (by omega), Int.toNat_natCast]
  rw [e] at h ⊢
  by_cases hz : respR l k 0 = 0
  · rw [if_pos hz] at h; cases h
  · rw [if_neg hz]; exact ⟨hz, rfl⟩

theorem late_none {R : Nat} : ∀ (js : List Jb) (es : List Int) (k : Nat), (∀ (i : Nat) x e, js[i]? = some x → es[i]? = some e → e ≤ x.d ∧ 0 ≤ e) → S8.lateFrom R js es k = []
  | [], es, k, h => by cases es <;> rfl
  | x :: js, [], k, h => rfl
  | x :: js, e :: es, k, h => by
    have h0 := h 0 x e rfl rfl
    unfold S8.lateFrom
    rw [if_neg (by omega)]
    exact late_none js es (k + 1) (fun i x e hx he => h (i + 1) x e (by simpa using hx) (by simpa using he))

/-- The critical instant: nobody takes longer than is told. -/
theorem keeps_pure {l : List Ta} {cs : List Co} {la tk rs : List Int} {js : List Jb} {N : Nat} {s : S8.St} (hr : responsesF l (List.replicate l.length 0) = (rs, (0, 0))) (hj : jobsF l cs la tk = ((0, 0), js))
    (hN : ∀ c ∈ cs, c.a + (Tk l c.k.toNat).d ≤ (N : Int)) (hok : ∀ x ∈ js, S8.okJ x) (hP : S8.Plays js 1 true N s) :
    ∀ (i : Nat) (c : Co), cs[i]? = some c → ∃ e, s.ends[i]? = some e ∧ 1 ≤ e ∧ e - c.a ≤ rs.getD c.k.toNat 0 ∧ e ≤ c.a + (Tk l c.k.toNat).d := by
  obtain ⟨hX, -, hr'⟩ := responsesF_split hr
  obtain ⟨-, hDT, -, h8, hst, -⟩ := chkX_ok hX
  obtain ⟨hleg, hjl, hje⟩ := jobsF_ok hj
  have hlk := legF_ok hleg
  obtain ⟨f, rfl, hp, hs⟩ := plays_seq N s hP
  intro i c hc
  have hil : i < cs.length := (List.getElem?_eq_some_iff.1 hc).1
  obtain ⟨hk0, hkl, ha0, ha1⟩ := hlk.2.2 c (List.mem_of_getElem? hc)
  obtain ⟨new, ern, hnl, hne⟩ := respsFrom_each _ 0 [] rs hr'
  rw [List.nil_append] at ern
  subst ern
  have hkn : c.k.toNat < l.length := by omega
  obtain ⟨n1, n2⟩ := hne c.k.toNat 0 (by simp [hkn])
  rw [Nat.zero_add] at n1 n2
  obtain ⟨hrr, hre⟩ := respF_some hkn n2
  rw [hre] at n1
  have hrs : rs.getD c.k.toNat 0 = respR l c.k.toNat 0 := by rw [List.getD_eq_getElem?_getD, n1]; rfl
  rw [hrs]
  obtain ⟨w, w1, w2, w3, -, w5⟩ := wOf_some (show wOf _ _ _ ≠ 0 from hrr)
  have w5' : respR l c.k.toNat 0 = w + (Tk l c.k.toNat).j := w5
  rw [w5']
  obtain ⟨wn, rfl⟩ : ∃ n : Nat, w = (n : Int) := ⟨w.toNat, by omega⟩
  -- the jobs
  have hJ : ∀ n c, cs[n]? = some c → ∃ a b : Int, S8.J js n = ⟨c.k, c.a + a, b, c.a + (Tk l c.k.toNat).d, (Tk l c.k.toNat).p⟩ ∧ 0 ≤ a ∧ a ≤ (Tk l c.k.toNat).j ∧ 1 ≤ b ∧ b ≤ (Tk l c.k.toNat).c := fun n c hn => by
    obtain ⟨a, b, g1, g2⟩ := hje n c hn
    refine ⟨a, b, ?_, g2⟩
    unfold S8.J
    rw [List.getD_eq_getElem?_getD, g1]
    rfl
  have hC : ∀ n, n < js.length → ∃ c, cs[n]? = some c ∧ cs.getD n ⟨0, 0⟩ = c := fun n hn => by
    have hn' : n < cs.length := by omega
    exact ⟨cs[n], by simp [hn'], by simp [hn']⟩
  obtain ⟨a, b, hji, a1, a2, b1, b2⟩ := hJ i c hc
  have R := run_of hok hp hs (Tk l c.k.toNat).p
  have hd := hN c (List.mem_of_getElem? hc)
  have hm : (S8.J js i).a = (((c.a + a).toNat : Nat) : Int) := by rw [hji]; show c.a + a = _; omega
  have hdone := R.done (i := i) (m := (c.a + a).toNat) (w := wn) (by omega) (by show (Tk l c.k.toNat).p ≤ (S8.J js i).p; rw [hji]; exact Int.le_refl _) hm (by omega) (by omega) (fun t0 _ => by
    have hall := FK.all_sum (n := js.length) (m := l.length) (a := fun n => (cs.getD n ⟨0, 0⟩).a) (r := fun n => (S8.J js n).a) (x := fun n => (S8.J js n).c) (kt := fun n => (S8.J js n).k.toNat) (Hk := fun k => (Tk l c.k.toNat).p ≤ (Tk l k).p) (J := fun k => (Tk l k).j) (T := fun k => (Tk l k).t) (C := fun k => (Tk l k).c) (k0 := c.k.toNat) (t0 := t0) (w := wn)
      (fun n hn => by
        obtain ⟨c', hc', -⟩ := hC n hn
        obtain ⟨a', b', e', -⟩ := hJ n c' hc'
        have := hlk.2.2 c' (List.mem_of_getElem? hc')
        show (S8.J js n).k.toNat < _
        rw [e']
        show c'.k.toNat < _
        omega) hkn (by omega)
      (fun k hk => by
        obtain ⟨g1, g2, g3, g4, g5, g6, g7, g8, -, -⟩ := stands_t (stands_mem hst hk)
        exact ⟨by show 0 < (Tk l k).t; omega, by show 0 ≤ (Tk l k).c; omega, g7⟩)
      (fun n hn => by
        obtain ⟨c', hc', hg⟩ := hC n hn
        obtain ⟨a', b', e', q1, q2, q3, q4⟩ := hJ n c' hc'
        rw [hg, e']
        try dsimp only
        exact ⟨by omega, by omega, q4⟩)
      (fun n n' hnn hn' e => by
        obtain ⟨c1, hc1, hg1⟩ := hC n (by omega)
        obtain ⟨c2, hc2, hg2⟩ := hC n' hn'
        obtain ⟨a3, b3, e3, -⟩ := hJ n c1 hc1
        obtain ⟨a4, b4, e4, -⟩ := hJ n' c2 hc2
        rw [hg1, hg2, e3]
        rw [e3, e4] at e
        try dsimp only at e ⊢
        have k1 := hlk.2.2 c1 (List.mem_of_getElem? hc1)
        have k2 := hlk.2.2 c2 (List.mem_of_getElem? hc2)
        have ek : c1.k = c2.k := by omega
        have := apart_of hleg n n' c1 c2 hnn hc1 hc2 ek
        rw [ek]
        exact this)
      (by
        have := hDT _ (Tk_mem hkn)
        show (wn : Int) + (Tk l c.k.toNat).j ≤ (Tk l c.k.toNat).t
        omega)
    have hask : (wn : Int) = (Tk l c.k.toNat).c + FK.sumN l.length (fun k => if k ≠ c.k.toNat ∧ (Tk l c.k.toNat).p ≤ (Tk l k).p then ((wn : Int) + (Tk l k).j + (Tk l k).t - 1) / (Tk l k).t * (Tk l k).c else 0) := by
      have h1 := sumO_sumN (A := aheadP l c.k.toNat) (i := c.k.toNat) (w := (wn : Int)) (l := l) l.length 0 (by omega)
      have h2 : FK.sumN l.length (fun k => if k ≠ c.k.toNat ∧ (Tk l c.k.toNat).p ≤ (Tk l k).p then ((wn : Int) + (Tk l k).j + (Tk l k).t - 1) / (Tk l k).t * (Tk l k).c else 0) = FK.sumN l.length (fun k => if k ≠ c.k.toNat ∧ aheadP l c.k.toNat k = true then up1 (wn : Int) (Tk l k) else 0) := by
        refine FK.sumN_eq _ (fun k _ => ?_)
        unfold aheadP up1
        simp
      rw [h2, h1]
      unfold askF at w3
      rw [List.drop_zero]
      show (wn : Int) = (Tk l c.k.toNat).c + (0 + _)
      omega
    have hH : FK.sumN js.length (fun n => if (Tk l c.k.toNat).p ≤ (S8.J js n).p ∧ (t0 : Int) ≤ (S8.J js n).a ∧ (S8.J js n).a < ((t0 + wn : Nat) : Int) then (S8.J js n).c else 0) = FK.sumN js.length (fun n => if (Tk l c.k.toNat).p ≤ (Tk l (S8.J js n).k.toNat).p ∧ (t0 : Int) ≤ (S8.J js n).a ∧ (S8.J js n).a < ((t0 + wn : Nat) : Int) then (S8.J js n).c else 0) := by
      refine FK.sumN_eq _ (fun n hn => ?_)
      obtain ⟨c', hc', -⟩ := hC n hn
      obtain ⟨a', b', e', -⟩ := hJ n c' hc'
      have ep : (S8.J js n).p = (Tk l (S8.J js n).k.toNat).p := by rw [e']
      rw [ep]
    refine Int.le_trans (Int.le_of_eq hH) ?_
    refine Int.le_trans hall ?_
    exact Int.le_of_eq hask.symm)
  obtain ⟨e, h1, h2, h3⟩ := ends_of hok hp hs N (Nat.le_refl N) i (by omega) ((c.a + a).toNat + wn) (by omega) hdone
  exact ⟨e, h1, h2, by omega, by omega⟩
end Go.Proofs.Ytkafihaajpifoaf
