import Derived.Test.YtccoobcggbbciamHX0
import Derived.Test.YtccoobcggbbciamKC4
namespace Go.Proofs.Ytccoobcggbbciam
namespace FK

/- Sums over the first n. -/
def sumN : Nat → (Nat → Int) → Int
  | 0, _ => 0
  | n + 1, f => sumN n f + f n

theorem sumN_le : ∀ (n : Nat) {f g : Nat → Int}, (∀ i, i < n → f i ≤ g i) → sumN n f ≤ sumN n g
  | 0, _, _, _ => Int.le_refl _
  | n + 1, f, g, h => by
    have h1 := sumN_le n (f := f) (g := g) (fun i hi => h i (by omega))
    have h2 := h n (by omega)
    unfold sumN
    omega

theorem sumN_eq : ∀ (n : Nat) {f g : Nat → Int}, (∀ i, i < n → f i = g i) → sumN n f = sumN n g
  | 0, _, _, _ => rfl
  | n + 1, f, g, h => by
    unfold sumN
    rw [sumN_eq n (fun i hi => h i (by omega)), h n (by omega)]

theorem sumN_nonneg (n : Nat) {f : Nat → Int} (h : ∀ i, i < n → 0 ≤ f i) : 0 ≤ sumN n f := by
  have : sumN n (fun _ => 0) = 0 := by
    induction n with
    | zero => rfl
    | succ n ih => unfold sumN; rw [ih (fun i hi => h i (by omega))]; rfl
  rw [← this]
  exact sumN_le n h

theorem sumN_each : ∀ (n : Nat) {f : Nat → Int}, (∀ i, i < n → 0 ≤ f i) → sumN n f ≤ 0 → ∀ i, i < n → f i = 0
  | 0, _, _, _, i, hi => by omega
  | n + 1, f, h, hs, i, hi => by
    have h1 := sumN_nonneg n (f := f) (fun i hi => h i (by omega))
    have h2 := h n (by omega)
    unfold sumN at hs
    by_cases e : i = n
    · subst e; omega
    · exact sumN_each n (fun i hi => h i (by omega)) (by omega) i (by omega)

theorem sumN_one : ∀ (n : Nat) {f g : Nat → Int} (k : Nat), k < n → g k = f k - 1 → (∀ i, i < n → i ≠ k → g i = f i) → sumN n g = sumN n f - 1
  | 0, _, _, k, hk, _, _ => by omega
  | n + 1, f, g, k, hk, h1, h2 => by
    unfold sumN
    by_cases e : k = n
    · subst e
      rw [sumN_eq k (f := g) (g := f) (fun i hi => h2 i (by omega) (by omega)), h1]
      omega
    · rw [sumN_one n k (by omega) h1 (fun i hi hn => h2 i (by omega) hn), h2 n (by omega) (by omega)]
      omega

theorem sumN_add (n : Nat) (f g : Nat → Int) : sumN n (fun i => f i + g i) = sumN n f + sumN n g := by
  induction n with
  | zero => rfl
  | succ n ih => unfold sumN; rw [ih]; dsimp only; omega

theorem sumN_swap (n m : Nat) (A : Nat → Nat → Int) : sumN n (fun i => sumN m (fun k => A i k)) = sumN m (fun k => sumN n (fun i => A i k)) := by
  induction n with
  | zero =>
    show (0 : Int) = sumN m (fun _ => 0)
    induction m with
    | zero => rfl
    | succ m ih => unfold sumN; rw [← ih]; rfl
  | succ n ih =>
    show sumN n (fun i => sumN m (fun k => A i k)) + sumN m (fun k => A n k) = sumN m (fun k => sumN n (fun i => A i k) + A n k)
    rw [ih, sumN_add]

theorem sumN_pick : ∀ (m : Nat) (k0 : Nat) (v : Int), k0 < m → sumN m (fun k => if k = k0 then v else 0) = v
  | 0, k0, v, h => by omega
  | m + 1, k0, v, h => by
    unfold sumN
    dsimp only
    by_cases e : k0 = m
    · subst e
      rw [if_pos rfl, sumN_eq k0 (g := fun _ => 0) (fun i hi => if_neg (by omega))]
      have : sumN k0 (fun _ => 0) = 0 := by
        clear h
        induction k0 with
        | zero => rfl
        | succ n ih => unfold sumN; rw [ih]; rfl
      rw [this]; omega
    · rw [if_neg (by omega), sumN_pick m k0 v (by omega)]
      omega

/- Jobs that are played: r when they are there, x how long they take, L what is left of each, tick by tick; H those that go ahead. -/
structure Run (n N : Nat) (r x : Nat → Int) (H : Nat → Prop) (L : Nat → Nat → Int) : Prop where
  r0 : ∀ i, i < n → 0 ≤ r i
  init : ∀ i, i < n → L 0 i = x i
  nneg : ∀ t i, t ≤ N → i < n → 0 ≤ L t i
  step : ∀ t, t < N → ((∀ i, i < n → L (t + 1) i = L t i) ∧ ∀ i, i < n → H i → r i ≤ t → L t i = 0) ∨
    ∃ k, k < n ∧ r k ≤ t ∧ 0 < L t k ∧ L (t + 1) k = L t k - 1 ∧ (∀ i, i < n → i ≠ k → L (t + 1) i = L t i) ∧ (H k ∨ ∀ i, i < n → H i → r i ≤ t → L t i = 0)

def Quiet (n : Nat) (r : Nat → Int) (H : Nat → Prop) (L : Nat → Nat → Int) (t : Nat) : Prop := ∀ i, i < n → H i → r i < t → L t i = 0

theorem Run.down {n N : Nat} {r x : Nat → Int} {H : Nat → Prop} {L : Nat → Nat → Int} (h : Run n N r x H L) {i : Nat} (hi : i < n) : ∀ (d t : Nat), t + d ≤ N → L (t + d) i ≤ L t i
  | 0, t, _ => Int.le_refl _
  | d + 1, t, ht => by
    have h1 := h.down hi d t (by omega)
    have : L (t + d + 1) i ≤ L (t + d) i := by
      rcases h.step (t + d) (by omega) with ⟨h2, -⟩ | ⟨k, hk, -, -, h3, h4, -⟩
      · rw [h2 i hi]; exact Int.le_refl _
      · by_cases e : i = k
        · subst e; omega
        · rw [h4 i hi e]; exact Int.le_refl _
    rw [show t + (d + 1) = t + d + 1 by omega]
    omega

theorem Run.zero {n N : Nat} {r x : Nat → Int} {H : Nat → Prop} {L : Nat → Nat → Int} (h : Run n N r x H L) {i t u : Nat} (hi : i < n) (hz : L t i = 0) (htu : t ≤ u) (hu : u ≤ N) : L u i = 0 := by
  have h1 := h.down hi (u - t) t (by omega)
  rw [show t + (u - t) = u by omega] at h1
  have h2 := h.nneg u i hu hi
  omega

/-- The busy time: where all that comes within w takes w at most, there is a quiet time within w. -/
theorem Run.busy {n N : Nat} {r x : Nat → Int} {H : Nat → Prop} [DecidablePred H] {L : Nat → Nat → Int} (h : Run n N r x H L) {t0 w : Nat} (hq : Quiet n r H L t0) (hw : 1 ≤ w) (hN : t0 + w ≤ N)
    (hs : sumN n (fun i => if H i ∧ (t0 : Int) ≤ r i ∧ r i < ((t0 + w : Nat) : Int) then x i else 0) ≤ (w : Int)) : ∃ q, t0 < q ∧ q ≤ t0 + w ∧ Quiet n r H L q := by
  apply Classical.byContradiction
  intro hno
  have hno' : ∀ q, t0 < q → q ≤ t0 + w → ¬ Quiet n r H L q := fun q h1 h2 h3 => hno ⟨q, h1, h2, h3⟩
  let S : Nat → Int := fun t => sumN n (fun i => if H i ∧ (t0 : Int) ≤ r i ∧ r i < ((t0 + w : Nat) : Int) then L t i else 0)
  have key : ∀ d, d ≤ w → S (t0 + d) = S t0 - (d : Int) := by
    intro d
    induction d with
    | zero => intro _; show S t0 = _; omega
    | succ d ih =>
      intro hd
      have hbad := hno' (t0 + d + 1) (by omega) (by omega)
      have hnone : ¬ ∀ i, i < n → H i → r i ≤ ((t0 + d : Nat) : Int) → L (t0 + d) i = 0 := fun hall => hbad fun i hi hHi hr => by
        have hz := hall i hi hHi (by omega)
        exact h.zero hi hz (Nat.le_succ _) (by omega)
      rcases h.step (t0 + d) (by omega) with ⟨-, h2⟩ | ⟨k, hk, hrk, hpos, h3, h4, h5⟩
      · exact absurd h2 hnone
      · rcases h5 with h5 | h5
        · have hlow : (t0 : Int) ≤ r k := by
            apply Classical.byContradiction
            intro hc
            have hz := hq k hk h5 (by omega)
            have := h.zero hk hz (Nat.le_add_right t0 d) (by omega)
            omega
          have hin : H k ∧ (t0 : Int) ≤ r k ∧ r k < ((t0 + w : Nat) : Int) := ⟨h5, hlow, by omega⟩
          have : S (t0 + d + 1) = S (t0 + d) - 1 := by
            refine sumN_one n k hk ?_ (fun i hi hne => ?_)
            · rw [if_pos hin, if_pos hin, h3]
            · rw [h4 i hi hne]
          rw [show t0 + (d + 1) = t0 + d + 1 by omega, this, ih (by omega)]
          omega
        · exact absurd h5 hnone
  have hw0 := key w (Nat.le_refl w)
  have hS0 : S t0 ≤ (w : Int) := by
    refine Int.le_trans (sumN_le n (fun i hi => ?_)) hs
    by_cases hc : H i ∧ (t0 : Int) ≤ r i ∧ r i < ((t0 + w : Nat) : Int)
    · rw [if_pos hc, if_pos hc]
      have h1 := h.down hi t0 0 (by omega)
      rw [Nat.zero_add, h.init i hi] at h1
      exact h1
    · rw [if_neg hc, if_neg hc]; exact Int.le_refl _
  refine hno' (t0 + w) (by omega) (Nat.le_refl _) (fun i hi hHi hr => ?_)
  by_cases hlow : r i < (t0 : Int)
  · exact h.zero hi (hq i hi hHi hlow) (by omega) hN
  · have he := sumN_each n (f := fun i => if H i ∧ (t0 : Int) ≤ r i ∧ r i < ((t0 + w : Nat) : Int) then L (t0 + w) i else 0) (fun i hi => by
      split
      · exact h.nneg _ i hN hi
      · exact Int.le_refl _) (by show S (t0 + w) ≤ 0; omega) i hi
    have hin : H i ∧ (t0 : Int) ≤ r i ∧ r i < ((t0 + w : Nat) : Int) := ⟨hHi, by omega, hr⟩
    rw [if_pos hin] at he
    exact he

theorem last_quiet {n : Nat} {r : Nat → Int} {H : Nat → Prop} {L : Nat → Nat → Int} (h0 : ∀ i, i < n → 0 ≤ r i) : ∀ m : Nat, ∃ t0, t0 ≤ m ∧ Quiet n r H L t0 ∧ ∀ q, t0 < q → q ≤ m → ¬ Quiet n r H L q
  | 0 => ⟨0, Nat.le_refl _, fun i hi _ hr => by have := h0 i hi; omega, fun q h1 h2 => by omega⟩
  | m + 1 => by
    by_cases hq : Quiet n r H L (m + 1)
    · exact ⟨m + 1, Nat.le_refl _, hq, fun q h1 h2 => by omega⟩
    · obtain ⟨t0, h1, h2, h3⟩ := last_quiet h0 m
      refine ⟨t0, by omega, h2, fun q g1 g2 => ?_⟩
      by_cases e : q = m + 1
      · subst e; exact hq
      · exact h3 q g1 (by omega)

/-- Each job that goes ahead is done within w of its being there. -/
theorem Run.done {n N : Nat} {r x : Nat → Int} {H : Nat → Prop} [DecidablePred H] {L : Nat → Nat → Int} (h : Run n N r x H L) {i m w : Nat} (hi : i < n) (hH : H i) (hm : r i = (m : Int)) (hw : 1 ≤ w) (hN : m + w ≤ N)
    (hs : ∀ t0 : Nat, t0 ≤ m → sumN n (fun i => if H i ∧ (t0 : Int) ≤ r i ∧ r i < ((t0 + w : Nat) : Int) then x i else 0) ≤ (w : Int)) : L (m + w) i = 0 := by
  obtain ⟨t0, h1, h2, h3⟩ := last_quiet (H := H) (L := L) h.r0 m
  obtain ⟨q, g1, g2, g3⟩ := h.busy h2 hw (by omega) (hs t0 h1)
  have hqm : m < q := by
    apply Classical.byContradiction
    intro hc
    exact h3 q g1 (by omega) g3
  exact h.zero hi (g3 i hi hH (by omega)) (by omega) hN

/- How many of one task come within a time. -/
theorem come_count {n : Nat} {a r x : Nat → Int} {M : Nat → Prop} [DecidablePred M] {t0 w J T C : Int} (hT : 0 < T) (hC : 0 ≤ C)
    (hM : ∀ i, i < n → M i → t0 ≤ r i ∧ r i < t0 + w ∧ a i ≤ r i ∧ r i ≤ a i + J ∧ x i ≤ C)
    (hsp : ∀ i j, i < j → j < n → M i → M j → a i + T ≤ a j) : ∀ m, m ≤ n → ∃ c : Nat, sumN m (fun i => if M i then x i else 0) ≤ (c : Int) * C ∧ (c = 0 ∧ (∀ i, i < m → ¬ M i) ∨ 1 ≤ c ∧ ∃ i, i < m ∧ M i ∧ (∀ j, i < j → j < m → ¬ M j) ∧ (t0 - J) + ((c : Int) - 1) * T ≤ a i)
  | 0, _ => ⟨0, by simp [sumN], .inl ⟨rfl, fun i hi => by omega⟩⟩
  | m + 1, hm => by
    obtain ⟨c, h1, h2⟩ := come_count hT hC hM hsp m (by omega)
    by_cases hc : M m
    · have hmm := hM m (by omega) hc
      refine ⟨c + 1, ?_, .inr ⟨by omega, m, by omega, hc, fun j g1 g2 => by omega, ?_⟩⟩
      · show sumN m _ + (if M m then x m else 0) ≤ _
        rw [if_pos hc]
        have e : ((c + 1 : Nat) : Int) * C = (c : Int) * C + C := by rw [Int.natCast_succ, Int.add_mul]; omega
        rw [e]
        omega
      · rcases h2 with ⟨rfl, -⟩ | ⟨hc1, i, hi, hMi, -, ha⟩
        · have e : (((0 + 1 : Nat) : Int) - 1) * T = 0 := by simp
          rw [e]
          omega
        · have := hsp i m hi (by omega) hMi hc
          have e : (((c + 1 : Nat) : Int) - 1) * T = ((c : Int) - 1) * T + T := by
            rw [show (((c + 1 : Nat) : Int) - 1) = ((c : Int) - 1) + 1 by omega, Int.add_mul]
            omega
          rw [e]
          omega
    · refine ⟨c, ?_, ?_⟩
      · show sumN m _ + (if M m then x m else 0) ≤ _
        rw [if_neg hc]
        omega
      · rcases h2 with ⟨h2, h3⟩ | ⟨hc1, i, hi, hMi, hl, ha⟩
        · refine .inl ⟨h2, fun i hi => ?_⟩
          by_cases e : i = m
          · subst e; exact hc
          · exact h3 i (by omega)
        · refine .inr ⟨hc1, i, by omega, hMi, fun j g1 g2 => ?_, ha⟩
          by_cases e : j = m
          · subst e; exact hc
          · exact hl j g1 (by omega)

/-- All of one task within a time: as many as come, rounded up, times C. -/
theorem come_sum {n : Nat} {a r x : Nat → Int} {M : Nat → Prop} [DecidablePred M] {t0 w J T C : Int} (hT : 0 < T) (hC : 0 ≤ C) (hJ : 0 ≤ J) (hw : 0 ≤ w)
    (hM : ∀ i, i < n → M i → t0 ≤ r i ∧ r i < t0 + w ∧ a i ≤ r i ∧ r i ≤ a i + J ∧ x i ≤ C)
    (hsp : ∀ i j, i < j → j < n → M i → M j → a i + T ≤ a j) : sumN n (fun i => if M i then x i else 0) ≤ (w + J + T - 1) / T * C ∧ (w + J ≤ T → sumN n (fun i => if M i then x i else 0) ≤ C) := by
  obtain ⟨c, h1, h2⟩ := come_count hT hC hM hsp n (Nat.le_refl n)
  have hcT : ((c : Int) - 1) * T < w + J ∨ c = 0 := by
    rcases h2 with ⟨h2, -⟩ | ⟨hc1, i, hi, hMi, -, ha⟩
    · exact .inr h2
    · have := hM i hi hMi
      exact .inl (by omega)
  constructor
  · refine Int.le_trans h1 (Int.mul_le_mul_of_nonneg_right ?_ hC)
    rcases hcT with hcT | rfl
    · rw [Int.le_ediv_iff_mul_le hT]
      have e : ((c : Int) - 1) * T = (c : Int) * T - T := by rw [Int.sub_mul]; omega
      omega
    · exact Int.ediv_nonneg (by omega) (by omega)
  · intro hwJ
    have hc1 : (c : Int) ≤ 1 := by
      rcases hcT with hcT | rfl
      · apply Classical.byContradiction
        intro hgt
        have : 1 * T ≤ ((c : Int) - 1) * T := Int.mul_le_mul_of_nonneg_right (by omega) (by omega)
        omega
      · omega
    have : (c : Int) * C ≤ 1 * C := Int.mul_le_mul_of_nonneg_right hc1 hC
    omega

/-- All tasks together. -/
theorem all_sum {n m : Nat} {a r x : Nat → Int} {kt : Nat → Nat} {Hk : Nat → Prop} [DecidablePred Hk] {J T C : Nat → Int} {k0 t0 w : Nat}
    (hk : ∀ i, i < n → kt i < m) (hk0 : k0 < m) (hw : 1 ≤ w) (hpos : ∀ k, k < m → 0 < T k ∧ 0 ≤ C k ∧ 0 ≤ J k)
    (hx : ∀ i, i < n → a i ≤ r i ∧ r i ≤ a i + J (kt i) ∧ x i ≤ C (kt i))
    (hsp : ∀ i j, i < j → j < n → kt i = kt j → a i + T (kt i) ≤ a j) (hown : (w : Int) + J k0 ≤ T k0) :
    sumN n (fun i => if Hk (kt i) ∧ (t0 : Int) ≤ r i ∧ r i < ((t0 + w : Nat) : Int) then x i else 0) ≤ C k0 + sumN m (fun k => if k ≠ k0 ∧ Hk k then ((w : Int) + J k + T k - 1) / T k * C k else 0) := by
  have e1 : sumN n (fun i => if Hk (kt i) ∧ (t0 : Int) ≤ r i ∧ r i < ((t0 + w : Nat) : Int) then x i else 0) = sumN n (fun i => sumN m (fun k => if Hk k then (if kt i = k ∧ (t0 : Int) ≤ r i ∧ r i < ((t0 + w : Nat) : Int) then x i else 0) else 0)) := by
    refine sumN_eq n (fun i hi => ?_)
    rw [← sumN_pick m (kt i) (if Hk (kt i) ∧ (t0 : Int) ≤ r i ∧ r i < ((t0 + w : Nat) : Int) then x i else 0) (hk i hi)]
    refine sumN_eq m (fun k _ => ?_)
    by_cases e : k = kt i
    · subst e
      rw [if_pos rfl]
      by_cases h1 : Hk (kt i)
      · simp [h1]
      · simp [h1]
    · rw [if_neg e]
      have : ¬ kt i = k := fun h => e h.symm
      simp [this]
  rw [e1, sumN_swap]
  have e2 : C k0 + sumN m (fun k => if k ≠ k0 ∧ Hk k then ((w : Int) + J k + T k - 1) / T k * C k else 0) = sumN m (fun k => (if k = k0 then C k0 else 0) + (if k ≠ k0 ∧ Hk k then ((w : Int) + J k + T k - 1) / T k * C k else 0)) := by
    rw [sumN_add, sumN_pick m k0 (C k0) hk0]
  rw [e2]
  refine sumN_le m (fun k hkm => ?_)
  obtain ⟨hT, hC, hJ⟩ := hpos k hkm
  have hc := come_sum (n := n) (a := a) (r := r) (x := x) (M := fun i => kt i = k ∧ (t0 : Int) ≤ r i ∧ r i < ((t0 + w : Nat) : Int)) (t0 := t0) (w := w) hT hC hJ (by omega) (fun i hi hMi => by
    obtain ⟨rfl, g1, g2⟩ := hMi
    obtain ⟨b1, b2, b3⟩ := hx i hi
    exact ⟨g1, by omega, b1, b2, b3⟩) (fun i j hij hj hMi hMj => by
    obtain ⟨rfl, -⟩ := hMi
    exact hsp i j hij hj hMj.1.symm)
  have hup : 0 ≤ ((w : Int) + J k + T k - 1) / T k * C k := Int.mul_nonneg (Int.ediv_nonneg (by omega) (by omega)) hC
  show sumN n (fun i => if Hk k then _ else 0) ≤ _
  by_cases hHk : Hk k
  · have e3 : sumN n (fun i => if Hk k then (if kt i = k ∧ (t0 : Int) ≤ r i ∧ r i < ((t0 + w : Nat) : Int) then x i else 0) else 0) = sumN n (fun i => if kt i = k ∧ (t0 : Int) ≤ r i ∧ r i < ((t0 + w : Nat) : Int) then x i else 0) := sumN_eq n (fun i _ => if_pos hHk)
    rw [e3]
    by_cases e : k = k0
    · subst e
      have := hc.2 hown
      simp
      exact this
    · rw [if_neg e, if_pos ⟨e, hHk⟩]
      have := hc.1
      omega
  · have e3 : sumN n (fun i => if Hk k then (if kt i = k ∧ (t0 : Int) ≤ r i ∧ r i < ((t0 + w : Nat) : Int) then x i else 0) else 0) = 0 := by
      rw [sumN_eq n (g := fun _ => 0) (fun i _ => if_neg hHk)]
      clear e1 e2 hc hsp hx hk
      induction n with
      | zero => rfl
      | succ n ih => unfold sumN; rw [ih]; rfl
    rw [e3]
    have : 0 ≤ C k0 := (hpos k0 hk0).2.1
    by_cases e : k = k0
    · rw [if_pos e, if_neg (by simp [e])]; omega
    · rw [if_neg e, if_neg (by simp [hHk])]; omega
end FK

namespace NK
open FK

/-- Jobs that are played without being stopped: r when they are there, x how long they take, L what is left of each, who runs in each tick. -/
structure Run (n N : Nat) (r x : Nat → Int) (bef : Nat → Nat → Prop) (L : Nat → Nat → Int) (who : Nat → Option Nat) : Prop where
  r0 : ∀ i, i < n → 0 ≤ r i
  x0 : ∀ i, i < n → 1 ≤ x i
  init : ∀ i, i < n → L 0 i = x i
  nneg : ∀ t i, t ≤ N → i < n → 0 ≤ L t i
  idle : ∀ t, t < N → who t = none → (∀ i, i < n → L (t + 1) i = L t i) ∧ ∀ i, i < n → r i ≤ t → L t i = 0
  run : ∀ t k, t < N → who t = some k → k < n ∧ r k ≤ t ∧ 0 < L t k ∧ L (t + 1) k = L t k - 1 ∧ ∀ i, i < n → i ≠ k → L (t + 1) i = L t i
  on : ∀ t k, t + 1 < N → who t = some k → 0 < L (t + 1) k → who (t + 1) = some k
  best : ∀ t k, t < N → who t = some k → (∀ u, t = u + 1 → who u ≠ some k) → ∀ j, j < n → r j ≤ t → 0 < L t j → j ≠ k → bef k j

section
variable {n N : Nat} {r x : Nat → Int} {bef : Nat → Nat → Prop} {L : Nat → Nat → Int} {who : Nat → Option Nat}

theorem Run.step1 (h : Run n N r x bef L who) {i t : Nat} (hi : i < n) (ht : t < N) : L (t + 1) i = L t i ∨ (who t = some i ∧ L (t + 1) i = L t i - 1) := by
  cases e : who t with
  | none => exact .inl ((h.idle t ht e).1 i hi)
  | some k =>
    obtain ⟨hk, -, -, h3, h4⟩ := h.run t k ht e
    by_cases hik : i = k
    · subst hik; exact .inr ⟨rfl, h3⟩
    · exact .inl (h4 i hi hik)

theorem Run.down (h : Run n N r x bef L who) {i : Nat} (hi : i < n) : ∀ (d t : Nat), t + d ≤ N → L (t + d) i ≤ L t i
  | 0, t, _ => Int.le_refl _
  | d + 1, t, ht => by
    have h1 := h.down hi d t (by omega)
    have h2 := h.step1 hi (t := t + d) (by omega)
    rw [show t + (d + 1) = t + d + 1 by omega]
    omega
theorem Run.down' (h : Run n N r x bef L who) {i t u : Nat} (hi : i < n) (htu : t ≤ u) (hu : u ≤ N) : L u i ≤ L t i := by
  have := h.down hi (u - t) t (by omega)
  rwa [show t + (u - t) = u by omega] at this
theorem Run.zero (h : Run n N r x bef L who) {i t u : Nat} (hi : i < n) (hz : L t i = 0) (htu : t ≤ u) (hu : u ≤ N) : L u i = 0 := by
  have h1 := h.down' hi htu hu
  have h2 := h.nneg u i hu hi
  omega
theorem Run.most (h : Run n N r x bef L who) {i t : Nat} (hi : i < n) (ht : t ≤ N) : L t i ≤ x i := by
  have h1 := h.down' hi (Nat.zero_le t) ht
  rw [h.init i hi] at h1
  exact h1
/-- Ahead of its being there all of it is left. -/
theorem Run.whole (h : Run n N r x bef L who) {i : Nat} (hi : i < n) : ∀ (t : Nat), t ≤ N → (t : Int) ≤ r i → L t i = x i
  | 0, _, _ => h.init i hi
  | t + 1, ht, hr => by
    have h1 := h.whole hi t (by omega) (by omega)
    rcases h.step1 hi (t := t) (by omega) with h2 | ⟨h2, -⟩
    · rw [h2, h1]
    · have := (h.run t i (by omega) h2).2.1
      omega

/-- Of two of one kind the later one runs when the other is done. -/
theorem Run.turn (h : Run n N r x bef L who) {j k : Nat} (hk : k < n) (hjk : j ≠ k) (hr : r k ≤ r j) (hb : ¬ bef j k) : ∀ t, t < N → who t = some j → L t k = 0
  | 0, ht, hw => by
    apply Classical.byContradiction
    intro hne
    have h1 := h.nneg 0 k (by omega) hk
    obtain ⟨-, hrj, -⟩ := h.run 0 j ht hw
    exact hb (h.best 0 j ht hw (fun u e => by omega) k hk (by omega) (by omega) (Ne.symm hjk))
  | t + 1, ht, hw => by
    apply Classical.byContradiction
    intro hne
    have h1 := h.nneg (t + 1) k (by omega) hk
    obtain ⟨-, hrj, -⟩ := h.run (t + 1) j ht hw
    by_cases hp : who t = some j
    · have := h.turn hk hjk hr hb t (by omega) hp
      exact hne (h.zero hk this (Nat.le_succ t) (by omega))
    · exact hb (h.best (t + 1) j ht hw (fun u e => by have : u = t := by omega
                                                      subst this; exact hp) k hk (by omega) (by omega) (Ne.symm hjk))

/-- Once begun it runs till it is done. -/
theorem Run.through (h : Run n N r x bef L who) {k t : Nat} (hk : k < n) (hw : who t = some k) : ∀ d : Nat, t + d < N → 0 < L (t + d) k → who (t + d) = some k ∧ L (t + d) k = L t k - (d : Int)
  | 0, _, _ => ⟨hw, by simp⟩
  | d + 1, hN, hp => by
    have hp' : 0 < L (t + d) k := by
      have := h.down' hk (show t + d ≤ t + (d + 1) by omega) (by omega)
      omega
    obtain ⟨h1, h2⟩ := h.through hk hw d (by omega) hp'
    obtain ⟨-, -, -, h3, -⟩ := h.run (t + d) k (by omega) h1
    refine ⟨h.on (t + d) k (by omega) h1 hp, ?_⟩
    rw [show t + (d + 1) = t + d + 1 by omega, h3, h2]
    omega

theorem Run.finish (h : Run n N r x bef L who) {k t : Nat} {c : Nat} (hk : k < n) (hw : who t = some k) (hc : L t k ≤ (c : Int)) (hN : t + c ≤ N) : L (t + c) k = 0 := by
  apply Classical.byContradiction
  intro hne
  have hpos : 0 < L (t + c) k := by have := h.nneg (t + c) k hN hk; omega
  cases c with
  | zero => have := (h.nneg (t + 0) k hN hk); have e : t + 0 = t := rfl; rw [e] at hpos; omega
  | succ c =>
    have hp' : 0 < L (t + c) k := by
      have := h.down' hk (show t + c ≤ t + (c + 1) by omega) hN
      omega
    obtain ⟨h1, h2⟩ := h.through hk hw c (by omega) hp'
    obtain ⟨-, -, -, h3, -⟩ := h.run (t + c) k (by omega) h1
    rw [show t + (c + 1) = t + c + 1 by omega, h3, h2] at hpos
    omega

/-- One that isn't begun yet, and will be: when. -/
theorem Run.begins (h : Run n N r x bef L who) {k : Nat} (hk : k < n) : ∀ t, t ≤ N → L t k ≠ x k → ∃ u, u < t ∧ who u = some k
  | 0, _, hne => absurd (h.init k hk) hne
  | t + 1, ht, hne => by
    rcases h.step1 hk (t := t) (by omega) with h1 | ⟨h1, -⟩
    · obtain ⟨u, hu, hw⟩ := h.begins hk t (by omega) (by rw [← h1]; exact hne)
      exact ⟨u, by omega, hw⟩
    · exact ⟨t, by omega, h1⟩

/-- In a busy time one that doesn't belong to those that go ahead has begun ahead of it. -/
theorem Run.other (h : Run n N r x bef L who) {H : Nat → Prop} {s j : Nat} (hj : ¬ H j) (hbef : ∀ i, i < n → H i → ¬ bef j i) :
    ∀ d : Nat, s + d < N → (∀ e, e ≤ d → ∃ i, i < n ∧ H i ∧ r i ≤ ((s + e : Nat) : Int) ∧ 0 < L (s + e) i) → who (s + d) = some j → L (s + d + 1) j + (d : Int) + 2 ≤ x j
  | 0, hN, hb, hw => by
    obtain ⟨i, hi, hHi, hri, hLi⟩ := hb 0 (Nat.le_refl _)
    have hij : i ≠ j := fun e => hj (e ▸ hHi)
    obtain ⟨hjn, -, -, h3, -⟩ := h.run (s + 0) j hN hw
    have hprev : ∃ u, s + 0 = u + 1 ∧ who u = some j := by
      apply Classical.byContradiction
      intro hno
      exact hbef i hi hHi (h.best (s + 0) j hN hw (fun u e hu => hno ⟨u, e, hu⟩) i hi hri hLi hij)
    obtain ⟨u, e, hu⟩ := hprev
    obtain ⟨-, -, -, h4, -⟩ := h.run u j (by omega) hu
    have h5 := h.most hjn (t := u) (by omega)
    rw [e] at h3 ⊢
    omega
  | d + 1, hN, hb, hw => by
    obtain ⟨i, hi, hHi, hri, hLi⟩ := hb (d + 1) (Nat.le_refl _)
    have hij : i ≠ j := fun e => hj (e ▸ hHi)
    obtain ⟨hjn, -, -, h3, -⟩ := h.run (s + (d + 1)) j hN hw
    have hprev : who (s + d) = some j := by
      apply Classical.byContradiction
      intro hno
      exact hbef i hi hHi (h.best (s + (d + 1)) j hN hw (fun u e hu => hno (by rwa [show s + d = u by omega])) i hi hri hLi hij)
    have ih := h.other hj hbef d (by omega) (fun e he => hb e (by omega)) hprev
    rw [show s + d + 1 = s + (d + 1) by omega] at ih
    omega

/-- What is done in a busy time of d ticks: all of it but b. -/
theorem Run.work (h : Run n N r x bef L who) {H : Nat → Prop} {M : Nat → Prop} [DecidablePred M] {s : Nat} {b : Nat}
    (hbef : ∀ j, j < n → ¬ H j → (∀ i, i < n → H i → ¬ bef j i) ∧ x j ≤ (b : Int) + 1) :
    ∀ d : Nat, s + d ≤ N → (∀ e, e < d → ∃ i, i < n ∧ H i ∧ r i ≤ ((s + e : Nat) : Int) ∧ 0 < L (s + e) i) → (∀ e j, e < d → who (s + e) = some j → H j → M j) →
      sumN n (fun i => if M i then L (s + d) i else 0) + ((d - b : Nat) : Int) ≤ sumN n (fun i => if M i then L s i else 0)
  | 0, _, _, _ => by simp
  | d + 1, hN, hb, hm => by
    have ih := h.work (M := M) hbef d (by omega) (fun e he => hb e (by omega)) (fun e j he => hm e j (by omega))
    obtain ⟨i0, hi0, hH0, hr0, hL0⟩ := hb d (by omega)
    cases e : who (s + d) with
    | none =>
      have := (h.idle (s + d) (by omega) e).2 i0 hi0 hr0
      omega
    | some j =>
      obtain ⟨hjn, -, -, h3, h4⟩ := h.run (s + d) j (by omega) e
      rw [show s + (d + 1) = s + d + 1 by omega]
      have hle : sumN n (fun i => if M i then L (s + d + 1) i else 0) ≤ sumN n (fun i => if M i then L (s + d) i else 0) := sumN_le n (fun i hi => by
        by_cases hM : M i
        · rw [if_pos hM, if_pos hM]
          exact h.down' hi (Nat.le_succ _) (by omega)
        · rw [if_neg hM, if_neg hM]; exact Int.le_refl _)
      by_cases hH : H j
      · have hMj := hm d j (by omega) e hH
        have : sumN n (fun i => if M i then L (s + d + 1) i else 0) = sumN n (fun i => if M i then L (s + d) i else 0) - 1 := by
          refine sumN_one n j hjn ?_ (fun i hi hne => ?_)
          · rw [if_pos hMj, if_pos hMj, h3]
          · rw [h4 i hi hne]
        omega
      · obtain ⟨g1, g2⟩ := hbef j hjn hH
        have := h.other hH g1 d (by omega) (fun e he => hb e (by omega)) e
        have := h.nneg (s + d + 1) j (by omega) hjn
        have hdb : d + 1 ≤ b := by omega
        have : d + 1 - b = 0 := by omega
        have : d - b = 0 := by omega
        omega
end

theorem sumN_zero (n : Nat) : sumN n (fun _ => 0) = 0 := by
  induction n with
  | zero => rfl
  | succ n ih => unfold sumN; rw [ih]; rfl

/-- By tasks. -/
theorem by_task {n X : Nat} {kt : Nat → Nat} {W : Nat → Prop} [DecidablePred W] {x : Nat → Int} : sumN n (fun i => if kt i < X ∧ W i then x i else 0) = sumN X (fun y => sumN n (fun i => if kt i = y ∧ W i then x i else 0)) := by
  rw [← sumN_swap]
  refine sumN_eq n (fun i _ => ?_)
  by_cases hX : kt i < X
  · have e : (fun k => if kt i = k ∧ W i then x i else 0) = (fun k => if k = kt i then (if W i then x i else 0) else 0) := by
      funext k
      by_cases hk : k = kt i
      · subst hk; simp
      · have : ¬ kt i = k := fun e => hk e.symm
        simp [hk, this]
    rw [e, sumN_pick X (kt i) _ hX]
    by_cases hW : W i <;> simp [hX, hW]
  · rw [if_neg (fun h => hX h.1)]
    rw [sumN_eq X (g := fun _ => 0) (fun y hy => if_neg (fun h => hX (by omega)))]
    exact (sumN_zero X).symm

/-- The busy time without being stopped: each is done so soon. -/
theorem keeps {n N m : Nat} {a r x : Nat → Int} {kt : Nat → Nat} {C T J : Nat → Int} {bef : Nat → Nat → Prop} {L : Nat → Nat → Int} {who : Nat → Option Nat}
    (h : Run n N r x bef L who) (hbef : ∀ i j, bef i j ↔ (kt i < kt j ∨ (kt i = kt j ∧ (r i < r j ∨ (r i = r j ∧ i < j)))))
    (hkt : ∀ i, i < n → kt i < m) (hpos : ∀ y, y < m → 1 ≤ C y ∧ 1 ≤ T y ∧ 0 ≤ J y ∧ J y ≤ T y)
    (hx : ∀ i, i < n → a i ≤ r i ∧ r i ≤ a i + J (kt i) ∧ x i = C (kt i))
    (hsp : ∀ i j, i < j → j < n → kt i = kt j → a i + T (kt i) ≤ a j)
    {k X b bz : Nat} {v : Int} (hk : k < n) (hX : kt k = X)
    (hb : ∀ y, X < y → y < m → C y ≤ (b : Int) + 1)
    (hbz1 : 1 ≤ bz) (hbz : (bz : Int) = (b : Int) + sumN (X + 1) (fun y => ((bz : Int) + J y + T y - 1) / T y * C y))
    (hq : ∀ q : Nat, (q : Int) * T X < (bz : Int) + J X → ∃ w : Nat, (w : Int) = (b : Int) + (q : Int) * C X + sumN X (fun y => (((w : Int) + J y) / T y + 1) * C y) ∧ J X + (w : Int) - (q : Int) * T X + C X ≤ v)
    (hN : a k + v ≤ (N : Int)) : ∃ d : Nat, (d : Int) ≤ a k + v ∧ L d k = 0 := by
  obtain ⟨hak, hrk, hxk⟩ := hx k hk
  have hXm : X < m := hX ▸ hkt k hk
  obtain ⟨hC, hT, hJ, hJT⟩ := hpos X hXm
  rw [hX] at hrk hxk
  obtain ⟨m0, hm0⟩ : ∃ m0 : Nat, r k = (m0 : Int) := ⟨(r k).toNat, by have := h.r0 k hk; omega⟩
  -- the time is long enough for what comes to be there
  have hv0 : J X ≤ v := by
    obtain ⟨w, hw1, hw2⟩ := hq 0 (by simp; omega)
    simp at hw2
    omega
  have hm0N : m0 ≤ N := by omega
  obtain ⟨s, hs1, hs2, hs3⟩ := last_quiet (H := fun i => kt i ≤ X) (L := L) h.r0 m0
  -- busy
  have hbusy : ∀ t, s ≤ t → t < N → 0 < L t k → ∃ i, i < n ∧ kt i ≤ X ∧ r i ≤ (t : Int) ∧ 0 < L t i := fun t ht htN hLk => by
    by_cases hc : m0 ≤ t
    · exact ⟨k, hk, by omega, by omega, hLk⟩
    · have hnq := hs3 (t + 1) (by omega) (by omega)
      apply Classical.byContradiction
      intro hno
      refine hnq (fun i hi hHi hri => ?_)
      apply Classical.byContradiction
      intro hne
      have h1 := h.nneg (t + 1) i (by omega) hi
      have h2 := h.down' hi (show t ≤ t + 1 by omega) (by omega)
      exact hno ⟨i, hi, hHi, by omega, by omega⟩
  have hoth : ∀ j, j < n → ¬ kt j ≤ X → (∀ i, i < n → kt i ≤ X → ¬ bef j i) ∧ x j ≤ (b : Int) + 1 := fun j hj hH => by
    refine ⟨fun i hi hHi hbf => ?_, ?_⟩
    · rw [hbef] at hbf
      omega
    · rw [(hx j hj).2.2]
      exact hb (kt j) (by omega) (hkt j hj)
  have hlow : ∀ t j, s ≤ t → t < N → who t = some j → kt j ≤ X → (s : Int) ≤ r j ∧ r j ≤ (t : Int) := fun t j ht htN hw hH => by
    obtain ⟨hjn, hrj, hLj, -, -⟩ := h.run t j htN hw
    refine ⟨?_, hrj⟩
    apply Classical.byContradiction
    intro hc
    have hz := hs2 j hjn hH (by omega)
    have := h.zero hjn hz ht (by omega)
    omega
  have hcount : ∀ (y w : Nat), y < m → sumN n (fun i => if kt i = y ∧ (s : Int) ≤ r i ∧ r i < (s : Int) + (w : Int) then x i else 0) ≤ ((w : Int) + J y + T y - 1) / T y * C y := fun y w hy => by
    obtain ⟨c1, c2, c3, -⟩ := hpos y hy
    exact (come_sum (n := n) (a := a) (r := r) (x := x) (M := fun i => kt i = y ∧ (s : Int) ≤ r i ∧ r i < (s : Int) + (w : Int)) (t0 := s) (w := w) (by omega) (by omega) c3 (by omega) (fun i hi hMi => by
      obtain ⟨rfl, g1, g2⟩ := hMi
      obtain ⟨b1, b2, b3⟩ := hx i hi
      exact ⟨g1, g2, b1, b2, by omega⟩) (fun i j hij hj hMi hMj => by
      obtain ⟨rfl, -⟩ := hMi
      exact hsp i j hij hj hMj.1.symm)).1
  -- it comes within the busy time
  have hin : m0 < s + bz := by
    apply Classical.byContradiction
    intro hc
    have hw := h.work (H := fun i => kt i ≤ X) (M := fun i => kt i < X + 1 ∧ (s : Int) ≤ r i ∧ r i < (s : Int) + (bz : Int)) (s := s) (b := b) hoth bz (by omega) (fun e he => by
      have hwh := h.whole hk (s + e) (by omega) (by omega)
      exact hbusy (s + e) (by omega) (by omega) (by have := h.x0 k hk; omega)) (fun e j he hwj hH => by
      have := hlow (s + e) j (by omega) (by omega) hwj hH
      exact ⟨by omega, this.1, by omega⟩)
    have hS : sumN n (fun i => if kt i < X + 1 ∧ (s : Int) ≤ r i ∧ r i < (s : Int) + (bz : Int) then L s i else 0) ≤ sumN (X + 1) (fun y => ((bz : Int) + J y + T y - 1) / T y * C y) := by
      refine Int.le_trans (sumN_le n (g := fun i => if kt i < X + 1 ∧ ((s : Int) ≤ r i ∧ r i < (s : Int) + (bz : Int)) then x i else 0) (fun i hi => ?_)) ?_
      · by_cases hM : kt i < X + 1 ∧ (s : Int) ≤ r i ∧ r i < (s : Int) + (bz : Int)
        · rw [if_pos hM, if_pos hM]
          exact h.most hi (by omega)
        · rw [if_neg hM, if_neg hM]; exact Int.le_refl _
      · rw [by_task]
        exact sumN_le _ (fun y hy => hcount y bz (by omega))
    have hz : sumN n (fun i => if kt i < X + 1 ∧ (s : Int) ≤ r i ∧ r i < (s : Int) + (bz : Int) then L (s + bz) i else 0) ≤ 0 := by omega
    have he := sumN_each n (f := fun i => if kt i < X + 1 ∧ (s : Int) ≤ r i ∧ r i < (s : Int) + (bz : Int) then L (s + bz) i else 0) (fun i hi => by
      split
      · exact h.nneg _ i (by omega) hi
      · exact Int.le_refl _) hz
    refine hs3 (s + bz) (by omega) (by omega) (fun i hi hHi hri => ?_)
    by_cases hl : r i < (s : Int)
    · exact h.zero hi (hs2 i hi hHi hl) (by omega) (by omega)
    · have := he i hi
      rw [if_pos ⟨by omega, by omega, by omega⟩] at this
      exact this
  -- how many of its kind are ahead of it
  obtain ⟨q, hq1, hq2⟩ := come_count (n := k) (a := a) (r := r) (x := x) (M := fun i => kt i = X ∧ (s : Int) ≤ r i) (t0 := s) (w := (m0 : Int) + 1 - s) (J := J X) (T := T X) (C := C X) (by omega) (by omega) (fun i hi hMi => by
    obtain ⟨e, g1⟩ := hMi
    obtain ⟨b1, b2, b3⟩ := hx i (by omega)
    have := hsp i k hi hk (by omega)
    rw [e] at b2 b3 this
    exact ⟨g1, by omega, b1, b2, by omega⟩) (fun i j hij hj hMi hMj => by
    have := hsp i j hij (by omega) (by rw [hMi.1, hMj.1])
    rw [hMi.1] at this
    exact this) k (Nat.le_refl k)
  have hak2 : (s : Int) - J X + (q : Int) * T X ≤ a k := by
    rcases hq2 with ⟨rfl, -⟩ | ⟨hq1', i, hi, hMi, -, ha⟩
    · simp; omega
    · have := hsp i k hi hk (by rw [hMi.1, hX])
      rw [hMi.1] at this
      rw [Int.sub_mul] at ha
      omega
  obtain ⟨w, hw1, hw2⟩ := hq q (by omega)
  have hbw : b ≤ w := by
    have h1 : 0 ≤ (q : Int) * C X := Int.mul_nonneg (by omega) (by omega)
    have h2 : 0 ≤ sumN X (fun y => (((w : Int) + J y) / T y + 1) * C y) := sumN_nonneg X (fun y hy => by
      obtain ⟨c1, c2, c3, -⟩ := hpos y (by omega)
      exact Int.mul_nonneg (by have := Int.ediv_nonneg (a := (w : Int) + J y) (b := T y) (by omega) (by omega); omega) (by omega))
    omega
  obtain ⟨cx, hcx⟩ : ∃ cx : Nat, C X = (cx : Int) := ⟨(C X).toNat, by omega⟩
  have hfit : s + w + cx ≤ N := by omega
  -- it begins within w
  have hbeg : L (s + (w + 1)) k ≠ x k := by
    intro hnot
    have hno : ∀ e, e ≤ w + 1 → L (s + e) k = x k := fun e he => by
      have h1 := h.down' hk (show s + e ≤ s + (w + 1) by omega) (by omega)
      have h2 := h.most hk (t := s + e) (by omega)
      omega
    have hwk := h.work (H := fun i => kt i ≤ X) (M := fun i => (kt i < X ∧ (s : Int) ≤ r i ∧ r i < (s : Int) + ((w + 1 : Nat) : Int)) ∨ (i < k ∧ kt i = X ∧ (s : Int) ≤ r i)) (s := s) (b := b) hoth (w + 1) (by omega) (fun e he => hbusy (s + e) (by omega) (by omega) (by have := hno e (by omega); have := h.x0 k hk; omega)) (fun e j he hwj hH => by
      obtain ⟨g1, g2⟩ := hlow (s + e) j (by omega) (by omega) hwj hH
      obtain ⟨hjn, -, -, g3, -⟩ := h.run (s + e) j (by omega) hwj
      by_cases hjX : kt j < X
      · exact .inl ⟨hjX, g1, by omega⟩
      · right
        have hje : kt j = X := by omega
        refine ⟨?_, hje, g1⟩
        apply Classical.byContradiction
        intro hnl
        have hjk : j ≠ k := fun e' => by
          subst e'
          have e1 := hno e (by omega)
          have e2 := hno (e + 1) (by omega)
          rw [show s + (e + 1) = s + e + 1 by omega] at e2
          omega
        have hsj := hsp k j (by omega) hjn (by omega)
        rw [hX] at hsj
        have hrj := (hx j hjn).1
        have hrkj : r k ≤ r j := by omega
        have hz := h.turn (j := j) hk hjk hrkj (by rw [hbef]; omega) (s + e) (by omega) hwj
        have := hno e (by omega)
        have := h.x0 k hk
        omega)
    have hS : sumN n (fun i => if (kt i < X ∧ (s : Int) ≤ r i ∧ r i < (s : Int) + ((w + 1 : Nat) : Int)) ∨ (i < k ∧ kt i = X ∧ (s : Int) ≤ r i) then L s i else 0) ≤ sumN X (fun y => (((w : Int) + J y) / T y + 1) * C y) + (q : Int) * C X := by
      have e1 : sumN n (fun i => if (kt i < X ∧ (s : Int) ≤ r i ∧ r i < (s : Int) + ((w + 1 : Nat) : Int)) ∨ (i < k ∧ kt i = X ∧ (s : Int) ≤ r i) then L s i else 0) ≤ sumN n (fun i => (if kt i < X ∧ ((s : Int) ≤ r i ∧ r i < (s : Int) + ((w + 1 : Nat) : Int)) then x i else 0) + (if i < k ∧ kt i = X ∧ (s : Int) ≤ r i then x i else 0)) := sumN_le n (fun i hi => by
        have hmx := h.most hi (t := s) (by omega)
        have hx0 := h.x0 i hi
        by_cases h1 : kt i < X ∧ (s : Int) ≤ r i ∧ r i < (s : Int) + ((w + 1 : Nat) : Int)
        · have h2 : ¬ (i < k ∧ kt i = X ∧ (s : Int) ≤ r i) := fun g => by omega
          rw [if_pos (.inl h1), if_pos h1, if_neg h2]
          omega
        · by_cases h2 : i < k ∧ kt i = X ∧ (s : Int) ≤ r i
          · rw [if_pos (.inr h2), if_neg h1, if_pos h2]
            omega
          · rw [if_neg (fun g => g.elim h1 h2), if_neg h1, if_neg h2]
            omega)
      rw [sumN_add] at e1
      have e2 : sumN n (fun i => if kt i < X ∧ ((s : Int) ≤ r i ∧ r i < (s : Int) + ((w + 1 : Nat) : Int)) then x i else 0) ≤ sumN X (fun y => (((w : Int) + J y) / T y + 1) * C y) := by
        rw [by_task]
        refine sumN_le _ (fun y hy => ?_)
        have h1 := hcount y (w + 1) (by omega)
        obtain ⟨c1, c2, c3, -⟩ := hpos y (by omega)
        have e3 : ((w + 1 : Nat) : Int) + J y + T y - 1 = (w : Int) + J y + T y := by omega
        have e4 : ((w : Int) + J y + T y) / T y = ((w : Int) + J y) / T y + 1 := by
          have := Int.add_mul_ediv_right ((w : Int) + J y) 1 (show T y ≠ 0 by omega)
          rw [Int.one_mul] at this
          exact this
        rw [e3, e4] at h1
        exact h1
      have e5 : sumN n (fun i => if i < k ∧ kt i = X ∧ (s : Int) ≤ r i then x i else 0) = sumN k (fun i => if kt i = X ∧ (s : Int) ≤ r i then x i else 0) := by
        have : ∀ d, sumN (k + d) (fun i => if i < k ∧ kt i = X ∧ (s : Int) ≤ r i then x i else 0) = sumN k (fun i => if kt i = X ∧ (s : Int) ≤ r i then x i else 0) := by
          intro d
          induction d with
          | zero => exact sumN_eq k (fun i hi => by simp [hi])
          | succ d ih =>
            rw [← ih]
            show sumN (k + d) _ + (if k + d < k ∧ kt (k + d) = X ∧ (s : Int) ≤ r (k + d) then x (k + d) else 0) = _
            rw [if_neg (by omega)]
            omega
        have e6 := this (n - k)
        rwa [show k + (n - k) = n by omega] at e6
      omega
    have hnn : 0 ≤ sumN n (fun i => if (kt i < X ∧ (s : Int) ≤ r i ∧ r i < (s : Int) + ((w + 1 : Nat) : Int)) ∨ (i < k ∧ kt i = X ∧ (s : Int) ≤ r i) then L (s + (w + 1)) i else 0) := sumN_nonneg n (fun i hi => by
      split
      · exact h.nneg _ i (by omega) hi
      · exact Int.le_refl _)
    omega
  obtain ⟨u, hu, hwu⟩ := h.begins hk (s + (w + 1)) (by omega) hbeg
  have hz := h.finish hk hwu (c := cx) (by have := h.most hk (t := u) (by omega); omega) (by omega)
  exact ⟨u + cx, by omega, hz⟩
end NK

end Go.Proofs.Ytccoobcggbbciam
namespace Go.Proofs.Ytccoobcggbbciam
open Go.ChangeShapes Go.WideShapes Go.ChangeAt Go.RowKit

/- Chapter 18, pure: each core as a run of its own. -/
namespace Keep
/-- The first time at which it holds. -/
def fstT (P : Nat → Bool) (N : Nat) : Nat := ((List.range N).find? P).getD N
theorem fstT_hit {P : Nat → Bool} {N t : Nat} (ht : t < N) (h : P t = true) : fstT P N ≤ t ∧ P (fstT P N) = true ∧ fstT P N < N ∧ ∀ q, q < fstT P N → P q = false := by
  unfold fstT
  cases e : (List.range N).find? P with
  | none =>
    rw [List.find?_range_eq_none] at e
    have := e t ht
    rw [h] at this
    cases this
  | some u =>
    rw [List.find?_range_eq_some] at e
    obtain ⟨e1, e2, e3⟩ := e
    have hu : u < N := List.mem_range.1 e2
    refine ⟨?_, e1, hu, fun q hq => by simpa using e3 q hq⟩
    show u ≤ t
    apply Classical.byContradiction
    intro hc
    have := e3 t (by omega)
    rw [h] at this
    cases this
theorem fstT_miss {P : Nat → Bool} {N : Nat} (h : ∀ t, t < N → P t = false) : fstT P N = N := by
  unfold fstT
  have : (List.range N).find? P = none := by
    rw [List.find?_range_eq_none]
    intro t ht
    rw [h t ht]; rfl
  rw [this]; rfl
theorem fstT_cases (P : Nat → Bool) (N : Nat) : (fstT P N < N ∧ P (fstT P N) = true ∧ ∀ q, q < fstT P N → P q = false) ∨ (fstT P N = N ∧ ∀ q, q < N → P q = false) := by
  by_cases h : ∃ t, t < N ∧ P t = true
  · obtain ⟨t, h1, h2⟩ := h
    obtain ⟨-, g2, g3, g4⟩ := fstT_hit h1 h2
    exact .inl ⟨g3, g2, g4⟩
  · right
    have hq : ∀ q, q < N → P q = false := fun q hq => by
      rw [← Bool.not_eq_true]
      exact fun g => h ⟨q, hq, g⟩
    exact ⟨fstT_miss hq, hq⟩

/-- Jobs by one number: the coming's place in the order of times, and the part. -/
def nnI (ord : List Nat) (z i : Nat) : Nat := ord.getD (i / z) 0
section
variable {l : List Pa} {tk : List Int} {cs : List Co} {ord : List Nat}

theorem idx_of (h : Lg l cs ord) {k n : Nat} (hk : k < l.length) (hn : n < cs.length) : ∃ i, i < ord.length * l.length ∧ i % l.length = k ∧ nnI ord l.length i = n := by
  obtain ⟨p, hp⟩ := List.getElem?_of_mem ((h.mem n).2 hn)
  have hpl : p < ord.length := (List.getElem?_eq_some_iff.1 hp).1
  have hz : 0 < l.length := by omega
  have e1 : (p * l.length + k) / l.length = p := by
    rw [Nat.mul_comm, Nat.mul_add_div hz, Nat.div_eq_of_lt hk]; rfl
  have e2 : (p * l.length + k) % l.length = k := by
    rw [Nat.mul_comm, Nat.mul_add_mod, Nat.mod_eq_of_lt hk]
  refine ⟨p * l.length + k, ?_, e2, ?_⟩
  · have : (p + 1) * l.length ≤ ord.length * l.length := Nat.mul_le_mul_right _ hpl
    rw [Nat.add_mul, Nat.one_mul] at this
    omega
  · unfold nnI
    rw [e1, List.getD_eq_getElem?_getD, hp]; rfl
theorem idx_lt (h : Lg l cs ord) (hz : 0 < l.length) {i : Nat} (hi : i < ord.length * l.length) : i % l.length < l.length ∧ i / l.length < ord.length ∧ nnI ord l.length i < cs.length := by
  have h2 : i / l.length < ord.length := by rw [Nat.div_lt_iff_lt_mul hz]; exact hi
  refine ⟨Nat.mod_lt _ hz, h2, ?_⟩
  unfold nnI
  rw [List.getD_eq_getElem?_getD, List.getElem?_eq_getElem h2]
  exact (h.mem _).1 (List.getElem_mem h2)
theorem idx_one (h : Lg l cs ord) (hz : 0 < l.length) {i j : Nat} (hi : i < ord.length * l.length) (hj : j < ord.length * l.length) (h1 : i % l.length = j % l.length) (h2 : nnI ord l.length i = nnI ord l.length j) : i = j := by
  obtain ⟨-, a2, -⟩ := idx_lt h hz hi
  obtain ⟨-, b2, -⟩ := idx_lt h hz hj
  unfold nnI at h2
  rw [List.getD_eq_getElem?_getD, List.getElem?_eq_getElem a2, List.getD_eq_getElem?_getD, List.getElem?_eq_getElem b2] at h2
  have h3 : i / l.length = j / l.length := by
    rcases Nat.lt_trichotomy (i / l.length) (j / l.length) with g | g | g
    · exact absurd h2 (List.pairwise_iff_getElem.1 h.nd _ _ a2 b2 g)
    · exact g
    · exact absurd h2.symm (List.pairwise_iff_getElem.1 h.nd _ _ b2 a2 g)
  rw [← Nat.div_add_mod i l.length, ← Nat.div_add_mod j l.length, h1, h3]
theorem idx_ord (h : Lg l cs ord) (hz : 0 < l.length) {i j : Nat} (hij : i < j) (hj : j < ord.length * l.length) (h1 : i % l.length = j % l.length) : nnI ord l.length i ≠ nnI ord l.length j ∧ at_ cs (nnI ord l.length i) ≤ at_ cs (nnI ord l.length j) := by
  refine ⟨fun e => ?_, ?_⟩
  · have := idx_one h hz (by omega) hj h1 e
    omega
  · obtain ⟨-, a2, -⟩ := idx_lt h hz (show i < ord.length * l.length by omega)
    obtain ⟨-, b2, -⟩ := idx_lt h hz hj
    have hle : i / l.length ≤ j / l.length := Nat.div_le_div_right (by omega)
    have hlt : i / l.length < j / l.length := by
      rcases Nat.lt_or_ge (i / l.length) (j / l.length) with g | g
      · exact g
      · exfalso
        have e : i / l.length = j / l.length := by omega
        have e1 := Nat.div_add_mod i l.length
        have e2 := Nat.div_add_mod j l.length
        rw [e, h1] at e1
        omega
    have := List.pairwise_iff_getElem.1 h.srt (i / l.length) (j / l.length) a2 b2 hlt
    unfold nnI
    rw [List.getD_eq_getElem?_getD, List.getElem?_eq_getElem a2, List.getD_eq_getElem?_getD, List.getElem?_eq_getElem b2]
    exact this

/-- All parts of a chain have its T. -/
theorem rt_t (hok : PsOk l) : ∀ (m k : Nat), k < m → k < l.length → (l.getD k paZ).t = (l.getD (rt l k) paZ).t ∧ rt l k < l.length
  | 0, k, h, _ => by omega
  | m + 1, k, h, hk => by
    rcases fr_at hok hk with ⟨e, -⟩ | ⟨f, e1, e2, e3⟩
    · rw [rt_self e]; exact ⟨rfl, hk⟩
    · rw [rt_up hok hk e1, e3]
      exact rt_t hok m f (by omega) (by omega)
/-- Nothing is there ahead of its chain's coming. -/
theorem Lg.after (h : Lg l cs ord) : ∀ (m t k n : Nat), k < m → k < l.length → RJ l tk cs ord t k n = true → at_ cs n ≤ (t : Int)
  | 0, t, k, n, hm, _, _ => by omega
  | m + 1, t, k, n, hm, hk, hr => by
    obtain ⟨-, g2, g3⟩ := h.rj_real hk hr
    rcases fr_at h.ok hk with ⟨e, -⟩ | ⟨f, e1, e2, -⟩
    · exact g2 e
    · exact h.after m t f n (by omega) (by omega) (by
        have := g3 f e1
        unfold RJ rlJ
        rw [decide_eq_true (show En (Zs l tk cs ord t) n f ≠ -1 from this), Bool.or_true])
theorem Lg.dn_rj {t k n : Nat} (hd : Dn l tk cs ord t k n) : RJ l tk cs ord t k n = true := by
  unfold RJ rlJ
  rw [decide_eq_true (show En (Zs l tk cs ord t) n k ≠ -1 from hd), Bool.or_true]
theorem wk_le (hok : PsOk l) {k : Nat} (hk : k < l.length) (n : Nat) : wkF l tk k n ≤ (l.getD k paZ).c := by
  have hc := (hok.at_ k _ (some_getD (d := paZ) hk)).c
  unfold wkF
  split
  · exact Int.le_refl _
  · have := Int.emod_lt_of_pos (tk.getD ((n * l.length + k) % tk.length) 0) (show 0 < (l.getD k paZ).c by omega)
    omega

theorem sumN_front (n : Nat) (f : Nat → Int) : FK.sumN (n + 1) f = f 0 + FK.sumN n (fun q => f (q + 1)) := by
  induction n with
  | zero => simp [FK.sumN]
  | succ n ih =>
    show FK.sumN (n + 1) f + f (n + 1) = f 0 + (FK.sumN n (fun q => f (q + 1)) + f (n + 1))
    rw [ih]
    omega
theorem sumP_N {i : Nat} {xi : Pa} {late : List Int} {w : Int} : ∀ (r : List Pa) (k : Nat), sumP i xi late w r k = FK.sumN r.length (fun q => if k + q ≠ i ∧ (r.getD q paZ).co = xi.co ∧ xi.p ≤ (r.getD q paZ).p then upP w (late.getD (k + q) 0) (r.getD q paZ) else 0)
  | [], k => rfl
  | x :: r, k => by
    rw [sumP, List.length_cons, sumN_front, sumP_N r (k + 1)]
    congr 1
    refine FK.sumN_eq _ (fun q _ => ?_)
    rw [show k + (q + 1) = k + 1 + q by omega]
    rfl

/-- Chains of one kind come no oftener than every T. -/
def Sp (l : List Pa) (cs : List Co) : Prop := ∀ n n', n < cs.length → n' < cs.length → n ≠ n' → (cs.getD n ⟨0, 0⟩).k = (cs.getD n' ⟨0, 0⟩).k → at_ cs n ≤ at_ cs n' → at_ cs n + (l.getD (cs.getD n ⟨0, 0⟩).k.toNat paZ).t ≤ at_ cs n'

section
variable (l tk cs ord)
def isR (c0 i : Nat) : Prop := Real l cs (nnI ord l.length i) (i % l.length) ∧ co l (i % l.length) = c0
instance (c0 i : Nat) : Decidable (isR l cs ord c0 i) := inferInstanceAs (Decidable (_ ∧ _))
def aI (c0 N i : Nat) : Int := if isR l cs ord c0 i then at_ cs (nnI ord l.length i) else ((N + i : Nat) : Int)
def rI (late : List Int) (c0 N i : Nat) : Int := if isR l cs ord c0 i then (if fstT (fun t => RJ l tk cs ord t (i % l.length) (nnI ord l.length i)) N < N then (fstT (fun t => RJ l tk cs ord t (i % l.length) (nnI ord l.length i)) N : Int) else at_ cs (nnI ord l.length i) + late.getD (i % l.length) 0) else ((N + i : Nat) : Int)
def xI (c0 i : Nat) : Int := if isR l cs ord c0 i then wkF l tk (i % l.length) (nnI ord l.length i) else 1
def LI (c0 t i : Nat) : Int := if isR l cs ord c0 i then LJ l tk cs ord t (i % l.length) (nnI ord l.length i) else 1
def kI (c0 i : Nat) : Nat := if isR l cs ord c0 i then i % l.length else l.length
def HkI (c0 : Nat) (p0 : Int) (k : Nat) : Prop := k < l.length ∧ co l k = c0 ∧ p0 ≤ (l.getD k paZ).p
instance (c0 : Nat) (p0 : Int) (k : Nat) : Decidable (HkI l c0 p0 k) := inferInstanceAs (Decidable (_ ∧ _))
end

theorem Lg.rI_le (h : Lg l cs ord) {late : List Int} {c0 N : Nat} (hl0 : ∀ k : Nat, 0 ≤ late.getD k 0) (hR : ∀ k n, Real l cs n k → at_ cs n + late.getD k 0 < (N : Int) → RJ l tk cs ord (at_ cs n + late.getD k 0).toNat k n = true) {i : Nat} (hr : isR l cs ord c0 i) :
    at_ cs (nnI ord l.length i) ≤ rI l tk cs ord late c0 N i ∧ rI l tk cs ord late c0 N i ≤ at_ cs (nnI ord l.length i) + late.getD (i % l.length) 0 ∧ (∀ t : Nat, t < N → (rI l tk cs ord late c0 N i ≤ (t : Int) ↔ RJ l tk cs ord t (i % l.length) (nnI ord l.length i) = true)) := by
  obtain ⟨hr1, hr2⟩ := hr
  have hk := hr1.2.1
  have ha := h.a0 _ hr1.1
  have hl := hl0 (i % l.length)
  unfold rI
  rw [if_pos ⟨hr1, hr2⟩]
  rcases fstT_cases (fun t => RJ l tk cs ord t (i % l.length) (nnI ord l.length i)) N with ⟨g1, g2, g3⟩ | ⟨g1, g2⟩
  · rw [if_pos g1]
    generalize fstT (fun t => RJ l tk cs ord t (i % l.length) (nnI ord l.length i)) N = q at *
    refine ⟨h.after _ q _ _ (Nat.lt_succ_self _) hk g2, ?_, fun t ht => ⟨fun e => h.rj_le hk (by omega) g2, fun e => ?_⟩⟩
    · by_cases hc : at_ cs (nnI ord l.length i) + late.getD (i % l.length) 0 < (N : Int)
      · have := hR _ _ hr1 hc
        apply Classical.byContradiction
        intro hn
        have h3 := g3 (at_ cs (nnI ord l.length i) + late.getD (i % l.length) 0).toNat (by omega)
        try dsimp only at h3
        rw [this] at h3
        cases h3
      · omega
    · apply Classical.byContradiction
      intro hn
      have h3 := g3 t (by omega)
      try dsimp only at h3
      rw [e] at h3
      cases h3
  · rw [if_neg (by omega)]
    have hge : (N : Int) ≤ at_ cs (nnI ord l.length i) + late.getD (i % l.length) 0 := by
      apply Classical.byContradiction
      intro hn
      have h1 := hR _ _ hr1 (by omega)
      have h3 := g2 (at_ cs (nnI ord l.length i) + late.getD (i % l.length) 0).toNat (by omega)
      try dsimp only at h3
      rw [h1] at h3
      cases h3
    refine ⟨by omega, Int.le_refl _, fun t ht => ⟨fun e => by omega, fun e => ?_⟩⟩
    have h3 := g2 t ht
    try dsimp only at h3
    rw [e] at h3
    cases h3

/-- A core's run. -/
theorem Lg.run (h : Lg l cs ord) {late : List Int} {c0 N : Nat} (p0 : Int) (hl0 : ∀ k : Nat, 0 ≤ late.getD k 0) (hR : ∀ k n, Real l cs n k → at_ cs n + late.getD k 0 < (N : Int) → RJ l tk cs ord (at_ cs n + late.getD k 0).toNat k n = true) :
    FK.Run (ord.length * l.length) N (rI l tk cs ord late c0 N) (xI l tk cs ord c0) (fun i => HkI l c0 p0 (kI l cs ord c0 i)) (fun t i => LI l tk cs ord c0 t i) := by
  have hz : 0 < l.length := h.ok.one
  have hsame : ∀ t i, ¬ isR l cs ord c0 i → LI l tk cs ord c0 t i = 1 := fun t i hn => by unfold LI; rw [if_neg hn]
  have hreal : ∀ t i, isR l cs ord c0 i → LI l tk cs ord c0 t i = LJ l tk cs ord t (i % l.length) (nnI ord l.length i) := fun t i hn => by unfold LI; rw [if_pos hn]
  have hH : ∀ i, HkI l c0 p0 (kI l cs ord c0 i) → isR l cs ord c0 i ∧ kI l cs ord c0 i = i % l.length := fun i hi => by
    unfold kI at hi ⊢
    by_cases hr : isR l cs ord c0 i
    · rw [if_pos hr]; exact ⟨hr, rfl⟩
    · rw [if_neg hr] at hi
      have := hi.1
      omega
  refine ⟨fun i hi => ?_, fun i hi => ?_, fun t i ht hi => ?_, fun t ht => ?_⟩
  · by_cases hr : isR l cs ord c0 i
    · have := (h.rI_le hl0 hR hr).1
      have := h.a0 _ hr.1.1
      omega
    · unfold rI; rw [if_neg hr]; omega
  · unfold xI LI
    by_cases hr : isR l cs ord c0 i
    · rw [if_pos hr, if_pos hr]
      exact (h.zero _ _ hr.1.2.1).1
    · rw [if_neg hr, if_neg hr]
  · by_cases hr : isR l cs ord c0 i
    · rw [hreal t i hr]
      exact (h.lj t _ _ hr.1.2.1).1
    · rw [hsame t i hr]; omega
  · obtain ⟨F, Nf, f1, f2, f3, f4⟩ := h.tick (tk := tk) t
    have hdone : ∀ i, HkI l c0 p0 (kI l cs ord c0 i) → rI l tk cs ord late c0 N i ≤ (t : Int) → LI l tk cs ord c0 t i = 0 ∨ ∃ u, F u = true ∧ co l u = c0 ∧ p0 ≤ (l.getD u paZ).p := fun i hi hri => by
      obtain ⟨hr, hk⟩ := hH i hi
      rw [hk] at hi
      have hj := ((h.rI_le hl0 hR hr).2.2 t ht).1 hri
      rcases f4 _ _ hr.1.2.1 hj with g | ⟨u, g1, g2, g3⟩
      · left
        rw [hreal t i hr]
        exact g
      · have := hi.2.2
        exact .inr ⟨u, g1, by rw [g2]; exact hr.2, by omega⟩
    by_cases hu : ∃ u, F u = true ∧ co l u = c0
    · right
      obtain ⟨u, hu1, hu2⟩ := hu
      obtain ⟨g1, g2, g3⟩ := f2 u hu1
      have hrl := (h.rj_real g1 g2).1
      obtain ⟨i0, i1, i2, i3⟩ := idx_of h g1 hrl.1
      have hr : isR l cs ord c0 i0 := ⟨by rw [i2, i3]; exact hrl, by rw [i2]; exact hu2⟩
      refine ⟨i0, i1, ?_, ?_, ?_, fun i hi hne => ?_, ?_⟩
      · rw [(h.rI_le hl0 hR hr).2.2 t ht, i2, i3]
        exact g2
      · rw [hreal t i0 hr, i2, i3]
        exact g3
      · rw [hreal t i0 hr, hreal (t + 1) i0 hr, i2, i3, f1 u _ g1, if_pos ⟨hu1, rfl⟩]
      · by_cases hri : isR l cs ord c0 i
        · rw [hreal t i hri, hreal (t + 1) i hri, f1 _ _ hri.1.2.1, if_neg]
          rintro ⟨a1, a2⟩
          have e := f3 _ _ a1 hu1 (by rw [hri.2, hu2])
          rw [e] at a2
          exact hne (idx_one h hz hi i1 (by rw [e, i2]) (by rw [a2, i3]))
        · rw [hsame t i hri, hsame (t + 1) i hri]
      · by_cases hp : p0 ≤ (l.getD u paZ).p
        · left
          have : kI l cs ord c0 i0 = u := by unfold kI; rw [if_pos hr, i2]
          rw [this]
          exact ⟨g1, hu2, hp⟩
        · right
          intro i hi hHi hri
          rcases hdone i hHi hri with g | ⟨v, v1, v2, v3⟩
          · exact g
          · have := f3 v u v1 hu1 (by rw [v2, hu2])
            subst this
            exact absurd v3 hp
    · left
      refine ⟨fun i hi => ?_, fun i hi hHi hri => ?_⟩
      · by_cases hri : isR l cs ord c0 i
        · rw [hreal t i hri, hreal (t + 1) i hri, f1 _ _ hri.1.2.1, if_neg]
          rintro ⟨a1, -⟩
          exact hu ⟨_, a1, hri.2⟩
        · rw [hsame t i hri, hsame (t + 1) i hri]
      · rcases hdone i hHi hri with g | ⟨v, v1, v2, -⟩
        · exact g
        · exact absurd ⟨v, v1, v2⟩ hu

/-- Each job is done so soon behind its coming. -/
theorem Lg.done (h : Lg l cs ord) (hsp : Sp l cs) {late : List Int} {N : Nat} (hl0 : ∀ k : Nat, 0 ≤ late.getD k 0) (hR : ∀ k n, Real l cs n k → at_ cs n + late.getD k 0 < (N : Int) → RJ l tk cs ord (at_ cs n + late.getD k 0).toNat k n = true)
    {k n w : Nat} (hrl : Real l cs n k) (hw : 1 ≤ w) (hd : (w : Int) + late.getD k 0 ≤ (l.getD k paZ).d) (hfix : (l.getD k paZ).c + sumP k (l.getD k paZ) late w l 0 = (w : Int)) (hN : at_ cs n + late.getD k 0 + (w : Int) ≤ (N : Int)) :
    Dn l tk cs ord (at_ cs n + late.getD k 0 + (w : Int)).toNat k n := by
  have hz : 0 < l.length := h.ok.one
  have hk := hrl.2.1
  obtain ⟨i, i1, i2, i3⟩ := idx_of h hk hrl.1
  have hr : isR l cs ord (co l k) i := ⟨by rw [i2, i3]; exact hrl, by rw [i2]⟩
  have R := h.run (tk := tk) (c0 := co l k) (N := N) (l.getD k paZ).p hl0 hR
  obtain ⟨q1, q2, q3⟩ := h.rI_le (tk := tk) (c0 := co l k) (N := N) hl0 hR hr
  rw [i2, i3] at q2 q3
  rw [i3] at q1
  have ha := h.a0 n hrl.1
  have hlk := hl0 k
  have hki : kI l cs ord (co l k) i = k := by unfold kI; rw [if_pos hr, i2]
  obtain ⟨m, hm⟩ : ∃ m : Nat, rI l tk cs ord late (co l k) N i = (m : Int) := ⟨(rI l tk cs ord late (co l k) N i).toNat, by omega⟩
  have hpx := h.ok.at_ k _ (some_getD (d := paZ) hk)
  have hdone := R.done (i := i) (m := m) (w := w) i1 (by
    try dsimp only
    rw [hki]
    exact ⟨hk, rfl, Int.le_refl _⟩) hm hw (by omega) (fun t0 _ => by
    have hall := FK.all_sum (n := ord.length * l.length) (m := l.length + 1) (a := aI l cs ord (co l k) N) (r := rI l tk cs ord late (co l k) N) (x := xI l tk cs ord (co l k)) (kt := kI l cs ord (co l k)) (Hk := HkI l (co l k) (l.getD k paZ).p) (J := fun y => if y < l.length then late.getD y 0 else 0) (T := fun y => if y < l.length then (l.getD y paZ).t else 1) (C := fun y => if y < l.length then (l.getD y paZ).c else 1) (k0 := k) (t0 := t0) (w := w)
      (fun j _ => by
        unfold kI
        split
        · next hj => have := hj.1.2.1; omega
        · omega) (by omega) hw
      (fun y hy => by
        try dsimp only
        by_cases hyl : y < l.length
        · have hp := h.ok.at_ y _ (some_getD (d := paZ) hyl)
          have h1 := hp.c
          have h2 := hp.cd
          have h3 := hp.dt
          rw [if_pos hyl, if_pos hyl, if_pos hyl]
          exact ⟨by omega, by omega, hl0 y⟩
        · rw [if_neg hyl, if_neg hyl, if_neg hyl]
          omega)
      (fun j hj => by
        try dsimp only
        by_cases hrj : isR l cs ord (co l k) j
        · obtain ⟨a1, a2, -⟩ := h.rI_le (tk := tk) (c0 := co l k) (N := N) hl0 hR hrj
          have e1 : aI l cs ord (co l k) N j = at_ cs (nnI ord l.length j) := by unfold aI; rw [if_pos hrj]
          have e2 : kI l cs ord (co l k) j = j % l.length := by unfold kI; rw [if_pos hrj]
          have e3 : xI l tk cs ord (co l k) j = wkF l tk (j % l.length) (nnI ord l.length j) := by unfold xI; rw [if_pos hrj]
          rw [e1, e2, e3, if_pos hrj.1.2.1, if_pos hrj.1.2.1]
          exact ⟨a1, a2, wk_le h.ok hrj.1.2.1 _⟩
        · have e1 : aI l cs ord (co l k) N j = ((N + j : Nat) : Int) := by unfold aI; rw [if_neg hrj]
          have e0 : rI l tk cs ord late (co l k) N j = ((N + j : Nat) : Int) := by unfold rI; rw [if_neg hrj]
          have e2 : kI l cs ord (co l k) j = l.length := by unfold kI; rw [if_neg hrj]
          have e3 : xI l tk cs ord (co l k) j = 1 := by unfold xI; rw [if_neg hrj]
          rw [e0, e1, e2, e3, if_neg (by omega), if_neg (by omega)]
          omega)
      (fun j j' hjj hj' e => by
        try dsimp only
        by_cases hrj : isR l cs ord (co l k) j
        · have e2 : kI l cs ord (co l k) j = j % l.length := by unfold kI; rw [if_pos hrj]
          by_cases hrj' : isR l cs ord (co l k) j'
          · have e2' : kI l cs ord (co l k) j' = j' % l.length := by unfold kI; rw [if_pos hrj']
            have e1 : aI l cs ord (co l k) N j = at_ cs (nnI ord l.length j) := by unfold aI; rw [if_pos hrj]
            have e1' : aI l cs ord (co l k) N j' = at_ cs (nnI ord l.length j') := by unfold aI; rw [if_pos hrj']
            rw [e2, e2'] at e
            obtain ⟨b1, b2⟩ := idx_ord h hz hjj hj' e
            have c1 := hrj.1.2.2
            have c2 := hrj'.1.2.2
            rw [← e] at c2
            obtain ⟨k1, d1, -⟩ := h.cs_ _ hrj.1.1
            obtain ⟨k2, d2, -⟩ := h.cs_ _ hrj'.1.1
            have := hsp _ _ hrj.1.1 hrj'.1.1 b1 (by omega) b2
            rw [e1, e1', e2, if_pos hrj.1.2.1, (rt_t h.ok _ _ (Nat.lt_succ_self _) hrj.1.2.1).1, c1]
            exact this
          · have e2' : kI l cs ord (co l k) j' = l.length := by unfold kI; rw [if_neg hrj']
            have := hrj.1.2.1
            omega
        · have e2 : kI l cs ord (co l k) j = l.length := by unfold kI; rw [if_neg hrj]
          have e1 : aI l cs ord (co l k) N j = ((N + j : Nat) : Int) := by unfold aI; rw [if_neg hrj]
          by_cases hrj' : isR l cs ord (co l k) j'
          · have e2' : kI l cs ord (co l k) j' = j' % l.length := by unfold kI; rw [if_pos hrj']
            have := hrj'.1.2.1
            omega
          · have e1' : aI l cs ord (co l k) N j' = ((N + j' : Nat) : Int) := by unfold aI; rw [if_neg hrj']
            rw [e1, e1', e2, if_neg (by omega)]
            omega)
      (by
        try dsimp only
        rw [if_pos hk, if_pos hk]
        have := hpx.dt
        omega)
    refine Int.le_trans hall ?_
    try dsimp only
    rw [if_pos hk]
    rw [sumP_N l 0] at hfix
    have e : FK.sumN (l.length + 1) (fun y => if y ≠ k ∧ HkI l (co l k) (l.getD k paZ).p y then ((w : Int) + (if y < l.length then late.getD y 0 else 0) + (if y < l.length then (l.getD y paZ).t else 1) - 1) / (if y < l.length then (l.getD y paZ).t else 1) * (if y < l.length then (l.getD y paZ).c else 1) else 0) = FK.sumN l.length (fun q => if 0 + q ≠ k ∧ (l.getD q paZ).co = (l.getD k paZ).co ∧ (l.getD k paZ).p ≤ (l.getD q paZ).p then upP w (late.getD (0 + q) 0) (l.getD q paZ) else 0) := by
      show FK.sumN l.length _ + _ = _
      try dsimp only
      rw [if_neg (fun g => by have := g.2.1; omega), Int.add_zero]
      refine FK.sumN_eq _ (fun q hq => ?_)
      try dsimp only
      rw [if_pos hq, if_pos hq, if_pos hq, Nat.zero_add]
      have hcq := (h.ok.at_ q _ (some_getD (d := paZ) hq)).co
      have hck := hpx.co
      by_cases hc : q ≠ k ∧ HkI l (co l k) (l.getD k paZ).p q
      · rw [if_pos hc, if_pos]
        · rfl
        · refine ⟨hc.1, ?_, hc.2.2.2⟩
          have := hc.2.2.1
          unfold co at this
          omega
      · rw [if_neg hc, if_neg]
        rintro ⟨a1, a2, a3⟩
        exact hc ⟨a1, hq, by unfold co; rw [a2], a3⟩
    rw [e]
    omega)
  try dsimp only at hdone
  have hL : LI l tk cs ord (co l k) (m + w) i = LJ l tk cs ord (m + w) k n := by unfold LI; rw [if_pos hr, i2, i3]
  rw [hL] at hdone
  have hd1 := (h.lj (m + w) k n hk).2.1.1 hdone
  have := (h.dn_up hk hd1 ((at_ cs n + late.getD k 0 + (w : Int)).toNat - (m + w))).1
  rwa [show m + w + ((at_ cs n + late.getD k 0 + (w : Int)).toNat - (m + w)) = (at_ cs n + late.getD k 0 + (w : Int)).toNat by omega] at this
end
end Keep
end Go.Proofs.Ytccoobcggbbciam
