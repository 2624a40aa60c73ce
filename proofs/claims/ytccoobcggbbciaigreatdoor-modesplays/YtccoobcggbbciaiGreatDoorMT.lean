import Derived.Test.YtccoobcggbbciaiGreatDoorMF
import Derived.Test.YtccoobcggbbciaiGreatDoorSPY
namespace Go.Proofs.YtccoobcggbbciaiGreatDoor
namespace FK

/- Sums over the first n. -/
def sumN : Nat → (Nat → Int) → Int
  | 0, _ => 0
  | n + 1, f => sumN n f + f n

theorem sumN_le : ∀ (n : Nat) {f g : Nat → Int}, (∀ i, i < n → f i ≤ g i) → sumN n f ≤ sumN n g
  | 0, _, _, _ => Int.le_refl _
  | n + 1, f, g, h => by
    have h1 := sumN_le n (f := f) (g := g) (fun i hi => h i (by omega))
    have h2 := h n (by omega)
    unfold sumN
    omega

theorem sumN_eq : ∀ (n : Nat) {f g : Nat → Int}, (∀ i, i < n → f i = g i) → sumN n f = sumN n g
  | 0, _, _, _ => rfl
  | n + 1, f, g, h => by
    unfold sumN
    rw [sumN_eq n (fun i hi => h i (by omega)), h n (by omega)]

theorem sumN_nonneg (n : Nat) {f : Nat → Int} (h : ∀ i, i < n → 0 ≤ f i) : 0 ≤ sumN n f := by
  have : sumN n (fun _ => 0) = 0 := by
    induction n with
    | zero => rfl
    | succ n ih => unfold sumN; rw [ih (fun i hi => h i (by omega))]; rfl
  rw [← this]
  exact sumN_le n h

theorem sumN_each : ∀ (n : Nat) {f : Nat → Int}, (∀ i, i < n → 0 ≤ f i) → sumN n f ≤ 0 → ∀ i, i < n → f i = 0
  | 0, _, _, _, i, hi => by omega
  | n + 1, f, h, hs, i, hi => by
    have h1 := sumN_nonneg n (f := f) (fun i hi => h i (by omega))
    have h2 := h n (by omega)
    unfold sumN at hs
    by_cases e : i = n
    · subst e; omega
    · exact sumN_each n (fun i hi => h i (by omega)) (by omega) i (by omega)

theorem sumN_one : ∀ (n : Nat) {f g : Nat → Int} (k : Nat), k < n → g k = f k - 1 → (∀ i, i < n → i ≠ k → g i = f i) → sumN n g = sumN n f - 1
  | 0, _, _, k, hk, _, _ => by omega
  | n + 1, f, g, k, hk, h1, h2 => by
    unfold sumN
    by_cases e : k = n
    · subst e
      rw [sumN_eq k (f := g) (g := f) (fun i hi => h2 i (by omega) (by omega)), h1]
      omega
    · rw [sumN_one n k (by omega) h1 (fun i hi hn => h2 i (by omega) hn), h2 n (by omega) (by omega)]
      omega

theorem sumN_add (n : Nat) (f g : Nat → Int) : sumN n (fun i => f i + g i) = sumN n f + sumN n g := by
  induction n with
  | zero => rfl
  | succ n ih => unfold sumN; rw [ih]; dsimp only; omega

theorem sumN_swap (n m : Nat) (A : Nat → Nat → Int) : sumN n (fun i => sumN m (fun k => A i k)) = sumN m (fun k => sumN n (fun i => A i k)) := by
  induction n with
  | zero =>
    show (0 : Int) = sumN m (fun _ => 0)
    induction m with
    | zero => rfl
    | succ m ih => unfold sumN; rw [← ih]; rfl
  | succ n ih =>
    show sumN n (fun i => sumN m (fun k => A i k)) + sumN m (fun k => A n k) = sumN m (fun k => sumN n (fun i => A i k) + A n k)
    rw [ih, sumN_add]

theorem sumN_pick : ∀ (m : Nat) (k0 : Nat) (v : Int), k0 < m → sumN m (fun k => if k = k0 then v else 0) = v
  | 0, k0, v, h => by omega
  | m + 1, k0, v, h => by
    unfold sumN
    dsimp only
    by_cases e : k0 = m
    · subst e
      rw [if_pos rfl, sumN_eq k0 (g := fun _ => 0) (fun i hi => if_neg (by omega))]
      have : sumN k0 (fun _ => 0) = 0 := by
        clear h
        induction k0 with
        | zero => rfl
        | succ n ih => unfold sumN; rw [ih]; rfl
      rw [this]; omega
    · rw [if_neg (by omega), sumN_pick m k0 v (by omega)]
      omega

/- Jobs that are played: r when they are there, x how long they take, L what is left of each, tick by tick; H those that go ahead. -/
structure Run (n N : Nat) (r x : Nat → Int) (H : Nat → Prop) (L : Nat → Nat → Int) : Prop where
  r0 : ∀ i, i < n → 0 ≤ r i
  init : ∀ i, i < n → L 0 i = x i
  nneg : ∀ t i, t ≤ N → i < n → 0 ≤ L t i
  step : ∀ t, t < N → ((∀ i, i < n → L (t + 1) i = L t i) ∧ ∀ i, i < n → H i → r i ≤ t → L t i = 0) ∨
    ∃ k, k < n ∧ r k ≤ t ∧ 0 < L t k ∧ L (t + 1) k = L t k - 1 ∧ (∀ i, i < n → i ≠ k → L (t + 1) i = L t i) ∧ (H k ∨ ∀ i, i < n → H i → r i ≤ t → L t i = 0)

def Quiet (n : Nat) (r : Nat → Int) (H : Nat → Prop) (L : Nat → Nat → Int) (t : Nat) : Prop := ∀ i, i < n → H i → r i < t → L t i = 0

theorem Run.down {n N : Nat} {r x : Nat → Int} {H : Nat → Prop} {L : Nat → Nat → Int} (h : Run n N r x H L) {i : Nat} (hi : i < n) : ∀ (d t : Nat), t + d ≤ N → L (t + d) i ≤ L t i
  | 0, t, _ => Int.le_refl _
  | d + 1, t, ht => by
    have h1 := h.down hi d t (by omega)
    have : L (t + d + 1) i ≤ L (t + d) i := by
      rcases h.step (t + d) (by omega) with ⟨h2, -⟩ | ⟨k, hk, -, -, h3, h4, -⟩
      · rw [h2 i hi]; exact Int.le_refl _
      · by_cases e : i = k
        · subst e; omega
        · rw [h4 i hi e]; exact Int.le_refl _
    rw [show t + (d + 1) = t + d + 1 by omega]
    omega

theorem Run.zero {n N : Nat} {r x : Nat → Int} {H : Nat → Prop} {L : Nat → Nat → Int} (h : Run n N r x H L) {i t u : Nat} (hi : i < n) (hz : L t i = 0) (htu : t ≤ u) (hu : u ≤ N) : L u i = 0 := by
  have h1 := h.down hi (u - t) t (by omega)
  rw [show t + (u - t) = u by omega] at h1
  have h2 := h.nneg u i hu hi
  omega

/-- The busy time: where all that comes within w takes w at most, there is a quiet time within w. -/
theorem Run.busy {n N : Nat} {r x : Nat → Int} {H : Nat → Prop} [DecidablePred H] {L : Nat → Nat → Int} (h : Run n N r x H L) {t0 w : Nat} (hq : Quiet n r H L t0) (hw : 1 ≤ w) (hN : t0 + w ≤ N)
    (hs : sumN n (fun i => if H i ∧ (t0 : Int) ≤ r i ∧ r i < ((t0 + w : Nat) : Int) then x i else 0) ≤ (w : Int)) : ∃ q, t0 < q ∧ q ≤ t0 + w ∧ Quiet n r H L q := by
  apply Classical.byContradiction
  intro hno
  have hno' : ∀ q, t0 < q → q ≤ t0 + w → ¬ Quiet n r H L q := fun q h1 h2 h3 => hno ⟨q, h1, h2, h3⟩
  let S : Nat → Int := fun t => sumN n (fun i => if H i ∧ (t0 : Int) ≤ r i ∧ r i < ((t0 + w : Nat) : Int) then L t i else 0)
  have key : ∀ d, d ≤ w → S (t0 + d) = S t0 - (d : Int) := by
    intro d
    induction d with
    | zero => intro _; show S t0 = _; omega
    | succ d ih =>
      intro hd
      have hbad := hno' (t0 + d + 1) (by omega) (by omega)
      have hnone : ¬ ∀ i, i < n → H i → r i ≤ ((t0 + d : Nat) : Int) → L (t0 + d) i = 0 := fun hall => hbad fun i hi hHi hr => by
        have hz := hall i hi hHi (by omega)
        exact h.zero hi hz (Nat.le_succ _) (by omega)
      rcases h.step (t0 + d) (by omega) with ⟨-, h2⟩ | ⟨k, hk, hrk, hpos, h3, h4, h5⟩
      · exact absurd h2 hnone
      · rcases h5 with h5 | h5
        · have hlow : (t0 : Int) ≤ r k := by
            apply Classical.byContradiction
            intro hc
            have hz := hq k hk h5 (by omega)
            have := h.zero hk hz (Nat.le_add_right t0 d) (by omega)
            omega
          have hin : H k ∧ (t0 : Int) ≤ r k ∧ r k < ((t0 + w : Nat) : Int) := ⟨h5, hlow, by omega⟩
          have : S (t0 + d + 1) = S (t0 + d) - 1 := by
            refine sumN_one n k hk ?_ (fun i hi hne => ?_)
            · rw [if_pos hin, if_pos hin, h3]
            · rw [h4 i hi hne]
          rw [show t0 + (d + 1) = t0 + d + 1 by omega, this, ih (by omega)]
          omega
        · exact absurd h5 hnone
  have hw0 := key w (Nat.le_refl w)
  have hS0 : S t0 ≤ (w : Int) := by
    refine Int.le_trans (sumN_le n (fun i hi => ?_)) hs
    by_cases hc : H i ∧ (t0 : Int) ≤ r i ∧ r i < ((t0 + w : Nat) : Int)
    · rw [if_pos hc, if_pos hc]
      have h1 := h.down hi t0 0 (by omega)
      rw [Nat.zero_add, h.init i hi] at h1
      exact h1
    · rw [if_neg hc, if_neg hc]; exact Int.le_refl _
  refine hno' (t0 + w) (by omega) (Nat.le_refl _) (fun i hi hHi hr => ?_)
  by_cases hlow : r i < (t0 : Int)
  · exact h.zero hi (hq i hi hHi hlow) (by omega) hN
  · have he := sumN_each n (f := fun i => if H i ∧ (t0 : Int) ≤ r i ∧ r i < ((t0 + w : Nat) : Int) then L (t0 + w) i else 0) (fun i hi => by
      split
      · exact h.nneg _ i hN hi
      · exact Int.le_refl _) (by show S (t0 + w) ≤ 0; omega) i hi
    have hin : H i ∧ (t0 : Int) ≤ r i ∧ r i < ((t0 + w : Nat) : Int) := ⟨hHi, by omega, hr⟩
    rw [if_pos hin] at he
    exact he

theorem last_quiet {n : Nat} {r : Nat → Int} {H : Nat → Prop} {L : Nat → Nat → Int} (h0 : ∀ i, i < n → 0 ≤ r i) : ∀ m : Nat, ∃ t0, t0 ≤ m ∧ Quiet n r H L t0 ∧ ∀ q, t0 < q → q ≤ m → ¬ Quiet n r H L q
  | 0 => ⟨0, Nat.le_refl _, fun i hi _ hr => by have := h0 i hi; omega, fun q h1 h2 => by omega⟩
  | m + 1 => by
    by_cases hq : Quiet n r H L (m + 1)
    · exact ⟨m + 1, Nat.le_refl _, hq, fun q h1 h2 => by omega⟩
    · obtain ⟨t0, h1, h2, h3⟩ := last_quiet h0 m
      refine ⟨t0, by omega, h2, fun q g1 g2 => ?_⟩
      by_cases e : q = m + 1
      · subst e; exact hq
      · exact h3 q g1 (by omega)

/-- Each job that goes ahead is done within w of its being there. -/
theorem Run.done {n N : Nat} {r x : Nat → Int} {H : Nat → Prop} [DecidablePred H] {L : Nat → Nat → Int} (h : Run n N r x H L) {i m w : Nat} (hi : i < n) (hH : H i) (hm : r i = (m : Int)) (hw : 1 ≤ w) (hN : m + w ≤ N)
    (hs : ∀ t0 : Nat, t0 ≤ m → sumN n (fun i => if H i ∧ (t0 : Int) ≤ r i ∧ r i < ((t0 + w : Nat) : Int) then x i else 0) ≤ (w : Int)) : L (m + w) i = 0 := by
  obtain ⟨t0, h1, h2, h3⟩ := last_quiet (H := H) (L := L) h.r0 m
  obtain ⟨q, g1, g2, g3⟩ := h.busy h2 hw (by omega) (hs t0 h1)
  have hqm : m < q := by
    apply Classical.byContradiction
    intro hc
    exact h3 q g1 (by omega) g3
  exact h.zero hi (g3 i hi hH (by omega)) (by omega) hN

/- How many of one task come within a time. -/
theorem come_count {n : Nat} {a r x : Nat → Int} {M : Nat → Prop} [DecidablePred M] {t0 w J T C : Int} (hT : 0 < T) (hC : 0 ≤ C)
    (hM : ∀ i, i < n → M i → t0 ≤ r i ∧ r i < t0 + w ∧ a i ≤ r i ∧ r i ≤ a i + J ∧ x i ≤ C)
    (hsp : ∀ i j, i < j → j < n → M i → M j → a i + T ≤ a j) : ∀ m, m ≤ n → ∃ c : Nat, sumN m (fun i => if M i then x i else 0) ≤ (c : Int) * C ∧ (c = 0 ∧ (∀ i, i < m → ¬ M i) ∨ 1 ≤ c ∧ ∃ i, i < m ∧ M i ∧ (∀ j, i < j → j < m → ¬ M j) ∧ (t0 - J) + ((c : Int) - 1) * T ≤ a i)
  | 0, _ => ⟨0, by simp [sumN], .inl ⟨rfl, fun i hi => by omega⟩⟩
  | m + 1, hm => by
    obtain ⟨c, h1, h2⟩ := come_count hT hC hM hsp m (by omega)
    by_cases hc : M m
    · have hmm := hM m (by omega) hc
      refine ⟨c + 1, ?_, .inr ⟨by omega, m, by omega, hc, fun j g1 g2 => by omega, ?_⟩⟩
      · show sumN m _ + (if M m then x m else 0) ≤ _
        rw [if_pos hc]
        have e : ((c + 1 : Nat) : Int) * C = (c : Int) * C + C := by rw [Int.natCast_succ, Int.add_mul]; omega
        rw [e]
        omega
      · rcases h2 with ⟨rfl, -⟩ | ⟨hc1, i, hi, hMi, -, ha⟩
        · have e : (((0 + 1 : Nat) : Int) - 1) * T = 0 := by simp
          rw [e]
          omega
        · have := hsp i m hi (by omega) hMi hc
          have e : (((c + 1 : Nat) : Int) - 1) * T = ((c : Int) - 1) * T + T := by
            rw [show (((c + 1 : Nat) : Int) - 1) = ((c : Int) - 1) + 1 by omega, Int.add_mul]
            omega
          rw [e]
          omega
    · refine ⟨c, ?_, ?_⟩
      · show sumN m _ + (if M m then x m else 0) ≤ _
        rw [if_neg hc]
        omega
      · rcases h2 with ⟨h2, h3⟩ | ⟨hc1, i, hi, hMi, hl, ha⟩
        · refine .inl ⟨h2, fun i hi => ?_⟩
          by_cases e : i = m
          · subst e; exact hc
          · exact h3 i (by omega)
        · refine .inr ⟨hc1, i, by omega, hMi, fun j g1 g2 => ?_, ha⟩
          by_cases e : j = m
          · subst e; exact hc
          · exact hl j g1 (by omega)

/-- All of one task within a time: as many as come, rounded up, times C. -/
theorem come_sum {n : Nat} {a r x : Nat → Int} {M : Nat → Prop} [DecidablePred M] {t0 w J T C : Int} (hT : 0 < T) (hC : 0 ≤ C) (hJ : 0 ≤ J) (hw : 0 ≤ w)
    (hM : ∀ i, i < n → M i → t0 ≤ r i ∧ r i < t0 + w ∧ a i ≤ r i ∧ r i ≤ a i + J ∧ x i ≤ C)
    (hsp : ∀ i j, i < j → j < n → M i → M j → a i + T ≤ a j) : sumN n (fun i => if M i then x i else 0) ≤ (w + J + T - 1) / T * C ∧ (w + J ≤ T → sumN n (fun i => if M i then x i else 0) ≤ C) := by
  obtain ⟨c, h1, h2⟩ := come_count hT hC hM hsp n (Nat.le_refl n)
  have hcT : ((c : Int) - 1) * T < w + J ∨ c = 0 := by
    rcases h2 with ⟨h2, -⟩ | ⟨hc1, i, hi, hMi, -, ha⟩
    · exact .inr h2
    · have := hM i hi hMi
      exact .inl (by omega)
  constructor
  · refine Int.le_trans h1 (Int.mul_le_mul_of_nonneg_right ?_ hC)
    rcases hcT with hcT | rfl
    · rw [Int.le_ediv_iff_mul_le hT]
      have e : ((c : Int) - 1) * T = (c : Int) * T - T := by rw [Int.sub_mul]; omega
      omega
    · exact Int.ediv_nonneg (by omega) (by omega)
  · intro hwJ
    have hc1 : (c : Int) ≤ 1 := by
      rcases hcT with hcT | rfl
      · apply Classical.byContradiction
        intro hgt
        have : 1 * T ≤ ((c : Int) - 1) * T := Int.mul_le_mul_of_nonneg_right (by omega) (by omega)
        omega
      · omega
    have : (c : Int) * C ≤ 1 * C := Int.mul_le_mul_of_nonneg_right hc1 hC
    omega

/-- All tasks together. -/
theorem all_sum {n m : Nat} {a r x : Nat → Int} {kt : Nat → Nat} {Hk : Nat → Prop} [DecidablePred Hk] {J T C : Nat → Int} {k0 t0 w : Nat}
    (hk : ∀ i, i < n → kt i < m) (hk0 : k0 < m) (hw : 1 ≤ w) (hpos : ∀ k, k < m → 0 < T k ∧ 0 ≤ C k ∧ 0 ≤ J k)
    (hx : ∀ i, i < n → a i ≤ r i ∧ r i ≤ a i + J (kt i) ∧ x i ≤ C (kt i))
    (hsp : ∀ i j, i < j → j < n → kt i = kt j → a i + T (kt i) ≤ a j) (hown : (w : Int) + J k0 ≤ T k0) :
    sumN n (fun i => if Hk (kt i) ∧ (t0 : Int) ≤ r i ∧ r i < ((t0 + w : Nat) : Int) then x i else 0) ≤ C k0 + sumN m (fun k => if k ≠ k0 ∧ Hk k then ((w : Int) + J k + T k - 1) / T k * C k else 0) := by
  have e1 : sumN n (fun i => if Hk (kt i) ∧ (t0 : Int) ≤ r i ∧ r i < ((t0 + w : Nat) : Int) then x i else 0) = sumN n (fun i => sumN m (fun k => if Hk k then (if kt i = k ∧ (t0 : Int) ≤ r i ∧ r i < ((t0 + w : Nat) : Int) then x i else 0) else 0)) := by
    refine sumN_eq n (fun i hi => ?_)
    rw [← sumN_pick m (kt i) (if Hk (kt i) ∧ (t0 : Int) ≤ r i ∧ r i < ((t0 + w : Nat) : Int) then x i else 0) (hk i hi)]
    refine sumN_eq m (fun k _ => ?_)
    by_cases e : k = kt i
    · subst e
      rw [if_pos rfl]
      by_cases h1 : Hk (kt i)
      · simp [h1]
      · simp [h1]
    · rw [if_neg e]
      have : ¬ kt i = k := fun h => e h.symm
      simp [this]
  rw [e1, sumN_swap]
  have e2 : C k0 + sumN m (fun k => if k ≠ k0 ∧ Hk k then ((w : Int) + J k + T k - 1) / T k * C k else 0) = sumN m (fun k => (if k = k0 then C k0 else 0) + (if k ≠ k0 ∧ Hk k then ((w : Int) + J k + T k - 1) / T k * C k else 0)) := by
    rw [sumN_add, sumN_pick m k0 (C k0) hk0]
  rw [e2]
  refine sumN_le m (fun k hkm => ?_)
  obtain ⟨hT, hC, hJ⟩ := hpos k hkm
  have hc := come_sum (n := n) (a := a) (r := r) (x := x) (M := fun i => kt i = k ∧ (t0 : Int) ≤ r i ∧ r i < ((t0 + w : Nat) : Int)) (t0 := t0) (w := w) hT hC hJ (by omega) (fun i hi hMi => by
    obtain ⟨rfl, g1, g2⟩ := hMi
    obtain ⟨b1, b2, b3⟩ := hx i hi
    exact ⟨g1, by omega, b1, b2, b3⟩) (fun i j hij hj hMi hMj => by
    obtain ⟨rfl, -⟩ := hMi
    exact hsp i j hij hj hMj.1.symm)
  have hup : 0 ≤ ((w : Int) + J k + T k - 1) / T k * C k := Int.mul_nonneg (Int.ediv_nonneg (by omega) (by omega)) hC
  show sumN n (fun i => if Hk k then _ else 0) ≤ _
  by_cases hHk : Hk k
  · have e3 : sumN n (fun i => if Hk k then (if kt i = k ∧ (t0 : Int) ≤ r i ∧ r i < ((t0 + w : Nat) : Int) then x i else 0) else 0) = sumN n (fun i => if kt i = k ∧ (t0 : Int) ≤ r i ∧ r i < ((t0 + w : Nat) : Int) then x i else 0) := sumN_eq n (fun i _ => if_pos hHk)
    rw [e3]
    by_cases e : k = k0
    · subst e
      have := hc.2 hown
      simp
      exact this
    · rw [if_neg e, if_pos ⟨e, hHk⟩]
      have := hc.1
      omega
  · have e3 : sumN n (fun i => if Hk k then (if kt i = k ∧ (t0 : Int) ≤ r i ∧ r i < ((t0 + w : Nat) : Int) then x i else 0) else 0) = 0 := by
      rw [sumN_eq n (g := fun _ => 0) (fun i _ => if_neg hHk)]
      clear e1 e2 hc hsp hx hk
      induction n with
      | zero => rfl
      | succ n ih => unfold sumN; rw [ih]; rfl
    rw [e3]
    have : 0 ≤ C k0 := (hpos k0 hk0).2.1
    by_cases e : k = k0
    · rw [if_pos e, if_neg (by simp [e])]; omega
    · rw [if_neg e, if_neg (by simp [hHk])]; omega
end FK

namespace MK
open FK

/-- As done, with what is asked from the last quiet time on alone. -/
theorem done2 {n N : Nat} {r x : Nat → Int} {H : Nat → Prop} [DecidablePred H] {L : Nat → Nat → Int} (h : Run n N r x H L) {i m w : Nat} (hi : i < n) (hH : H i) (hm : r i = (m : Int)) (hw : 1 ≤ w) (hN : m + w ≤ N)
    (hs : ∀ t0 : Nat, t0 ≤ m → Quiet n r H L t0 → (∀ q, t0 < q → q ≤ m → ¬ Quiet n r H L q) → sumN n (fun i => if H i ∧ (t0 : Int) ≤ r i ∧ r i < ((t0 + w : Nat) : Int) then x i else 0) ≤ (w : Int)) : L (m + w) i = 0 := by
  obtain ⟨t0, h1, h2, h3⟩ := last_quiet (H := H) (L := L) h.r0 m
  obtain ⟨q, g1, g2, g3⟩ := h.busy h2 hw (by omega) (hs t0 h1 h2 h3)
  have hqm : m < q := by
    apply Classical.byContradiction
    intro hc
    exact h3 q g1 (by omega) g3
  exact h.zero hi (g3 i hi hH (by omega)) (by omega) hN

/-- Up to the turn (Tn): a job is run within w of its being there, ahead of the turn; or the turn comes within w of a quiet time. -/
theorem early {n N : Nat} {r x : Nat → Int} {H : Nat → Prop} [DecidablePred H] {L : Nat → Nat → Int} (h : Run n N r x H L) {i m w Tn : Nat} (hi : i < n) (hH : H i) (hm : r i = (m : Int)) (hw : 1 ≤ w) (hTn : Tn ≤ N)
    (hs : ∀ t0 : Nat, t0 ≤ m → sumN n (fun i => if H i ∧ (t0 : Int) ≤ r i ∧ r i < ((t0 + w : Nat) : Int) then x i else 0) ≤ (w : Int)) :
    (∃ q, m < q ∧ q ≤ m + w ∧ q ≤ Tn ∧ L q i = 0) ∨ ∃ t0, t0 ≤ m ∧ t0 ≤ Tn ∧ Quiet n r H L t0 ∧ Tn < t0 + w := by
  obtain ⟨t0, h1, h2, h3⟩ := last_quiet (H := H) (L := L) h.r0 (min m Tn)
  by_cases hc : Tn < t0 + w
  · exact .inr ⟨t0, by omega, by omega, h2, hc⟩
  · obtain ⟨q, g1, g2, g3⟩ := h.busy h2 hw (by omega) (hs t0 (by omega))
    have hqm : m < q := by
      apply Classical.byContradiction
      intro hd
      exact h3 q g1 (by omega) g3
    exact .inl ⟨q, hqm, by omega, by omega, g3 i hi hH (by omega)⟩

/-- Behind the turn: what is asked from a quiet time on is known where the turn comes soon behind it. -/
theorem late {n N : Nat} {r x : Nat → Int} {H : Nat → Prop} [DecidablePred H] {L : Nat → Nat → Int} (h : Run n N r x H L) {i m v w Tn t1 : Nat} (hi : i < n) (hH : H i) (hm : r i = (m : Int)) (hv : 1 ≤ v) (hN : m + v ≤ N)
    (ht : t1 ≤ m) (hq : Quiet n r H L t1) (hT : Tn < t1 + w)
    (hs : ∀ t0 : Nat, t0 ≤ m → Tn < t0 + w → sumN n (fun i => if H i ∧ (t0 : Int) ≤ r i ∧ r i < ((t0 + v : Nat) : Int) then x i else 0) ≤ (v : Int)) : L (m + v) i = 0 := by
  refine done2 h hi hH hm hv hN (fun t0 h1 h2 h3 => hs t0 h1 ?_)
  have : t1 ≤ t0 := by
    apply Classical.byContradiction
    intro hc
    exact h3 t1 (by omega) ht hq
  omega

/-- What two runs of the same jobs say of quiet times. -/
theorem quiet_of {n : Nat} {r : Nat → Int} {H : Nat → Prop} {L L' : Nat → Nat → Int} {t : Nat} (h : ∀ i, i < n → L' t i = 0 → L t i = 0) (hq : Quiet n r H L' t) : Quiet n r H L t := fun i hi hH hr => h i hi (hq i hi hH hr)
/-- All tasks together, each within a time of its own. -/
theorem all_sumK {n m : Nat} {a r x : Nat → Int} {kt : Nat → Nat} {Hk : Nat → Prop} [DecidablePred Hk] {J T C : Nat → Int} {W : Nat → Nat} {k0 t0 : Nat}
    (hk : ∀ i, i < n → kt i < m) (hk0 : k0 < m) (hpos : ∀ k, k < m → 0 < T k ∧ 0 ≤ C k ∧ 0 ≤ J k)
    (hx : ∀ i, i < n → a i ≤ r i ∧ r i ≤ a i + J (kt i) ∧ x i ≤ C (kt i))
    (hsp : ∀ i j, i < j → j < n → kt i = kt j → a i + T (kt i) ≤ a j) (hown : (W k0 : Int) + J k0 ≤ T k0) :
    sumN n (fun i => if Hk (kt i) ∧ (t0 : Int) ≤ r i ∧ r i < ((t0 + W (kt i) : Nat) : Int) then x i else 0) ≤ C k0 + sumN m (fun k => if k ≠ k0 ∧ Hk k then ((W k : Int) + J k + T k - 1) / T k * C k else 0) := by
  have e1 : sumN n (fun i => if Hk (kt i) ∧ (t0 : Int) ≤ r i ∧ r i < ((t0 + W (kt i) : Nat) : Int) then x i else 0) = sumN n (fun i => sumN m (fun k => if Hk k then (if kt i = k ∧ (t0 : Int) ≤ r i ∧ r i < ((t0 + W (kt i) : Nat) : Int) then x i else 0) else 0)) := by
    refine sumN_eq n (fun i hi => ?_)
    rw [← sumN_pick m (kt i) (if Hk (kt i) ∧ (t0 : Int) ≤ r i ∧ r i < ((t0 + W (kt i) : Nat) : Int) then x i else 0) (hk i hi)]
    refine sumN_eq m (fun k _ => ?_)
    by_cases e : k = kt i
    · subst e
      rw [if_pos rfl]
      by_cases h1 : Hk (kt i)
      · simp [h1]
      · simp [h1]
    · rw [if_neg e]
      have : ¬ kt i = k := fun h => e h.symm
      simp [this]
  rw [e1, sumN_swap]
  have e2 : C k0 + sumN m (fun k => if k ≠ k0 ∧ Hk k then ((W k : Int) + J k + T k - 1) / T k * C k else 0) = sumN m (fun k => (if k = k0 then C k0 else 0) + (if k ≠ k0 ∧ Hk k then ((W k : Int) + J k + T k - 1) / T k * C k else 0)) := by
    rw [sumN_add, sumN_pick m k0 (C k0) hk0]
  rw [e2]
  refine sumN_le m (fun k hkm => ?_)
  obtain ⟨hT, hC, hJ⟩ := hpos k hkm
  have hc := come_sum (n := n) (a := a) (r := r) (x := x) (M := fun i => kt i = k ∧ (t0 : Int) ≤ r i ∧ r i < ((t0 + W (kt i) : Nat) : Int)) (t0 := t0) (w := W k) hT hC hJ (by omega) (fun i hi hMi => by
    obtain ⟨rfl, g1, g2⟩ := hMi
    obtain ⟨b1, b2, b3⟩ := hx i hi
    exact ⟨g1, by omega, b1, b2, b3⟩) (fun i j hij hj hMi hMj => by
    obtain ⟨rfl, -⟩ := hMi
    exact hsp i j hij hj hMj.1.symm)
  have hup : 0 ≤ ((W k : Int) + J k + T k - 1) / T k * C k := Int.mul_nonneg (Int.ediv_nonneg (by omega) (by omega)) hC
  show sumN n (fun i => if Hk k then _ else 0) ≤ _
  by_cases hHk : Hk k
  · have e3 : sumN n (fun i => if Hk k then (if kt i = k ∧ (t0 : Int) ≤ r i ∧ r i < ((t0 + W (kt i) : Nat) : Int) then x i else 0) else 0) = sumN n (fun i => if kt i = k ∧ (t0 : Int) ≤ r i ∧ r i < ((t0 + W (kt i) : Nat) : Int) then x i else 0) := sumN_eq n (fun i _ => if_pos hHk)
    rw [e3]
    by_cases e : k = k0
    · subst e
      have := hc.2 hown
      simp
      exact this
    · rw [if_neg e, if_pos ⟨e, hHk⟩]
      have := hc.1
      omega
  · have e3 : sumN n (fun i => if Hk k then (if kt i = k ∧ (t0 : Int) ≤ r i ∧ r i < ((t0 + W (kt i) : Nat) : Int) then x i else 0) else 0) = 0 := by
      rw [sumN_eq n (g := fun _ => 0) (fun i _ => if_neg hHk)]
      clear e1 e2 hc hsp hx hk
      induction n with
      | zero => rfl
      | succ n ih => unfold sumN; rw [ih]; rfl
    rw [e3]
    have : 0 ≤ C k0 := (hpos k0 hk0).2.1
    by_cases e : k = k0
    · rw [if_pos e, if_neg (by simp [e])]; omega
    · rw [if_neg e, if_neg (by simp [hHk])]; omega

/-- All tasks together, where those that ask for something at all come within a time of their own. -/
theorem all_sumW {n m : Nat} {a r x : Nat → Int} {kt : Nat → Nat} {Hk : Nat → Prop} [DecidablePred Hk] {J T C : Nat → Int} {W : Nat → Nat} {k0 t0 v : Nat}
    (hk : ∀ i, i < n → kt i < m) (hk0 : k0 < m) (hpos : ∀ k, k < m → 0 < T k ∧ 0 ≤ C k ∧ 0 ≤ J k)
    (hx0 : ∀ i, i < n → 0 ≤ x i) (hx : ∀ i, i < n → a i ≤ r i ∧ r i ≤ a i + J (kt i) ∧ x i ≤ C (kt i))
    (hin : ∀ i, i < n → Hk (kt i) → (t0 : Int) ≤ r i → r i < ((t0 + v : Nat) : Int) → 0 < x i → r i < ((t0 + W (kt i) : Nat) : Int))
    (hsp : ∀ i j, i < j → j < n → kt i = kt j → a i + T (kt i) ≤ a j) (hown : (W k0 : Int) + J k0 ≤ T k0) :
    sumN n (fun i => if Hk (kt i) ∧ (t0 : Int) ≤ r i ∧ r i < ((t0 + v : Nat) : Int) then x i else 0) ≤ C k0 + sumN m (fun k => if k ≠ k0 ∧ Hk k then ((W k : Int) + J k + T k - 1) / T k * C k else 0) := by
  refine Int.le_trans (sumN_le n (fun i hi => ?_)) (all_sumK (a := a) (r := r) (x := x) (kt := kt) (Hk := Hk) (J := J) (T := T) (C := C) (W := W) (t0 := t0) hk hk0 hpos hx hsp hown)
  have h0 := hx0 i hi
  by_cases hc : Hk (kt i) ∧ (t0 : Int) ≤ r i ∧ r i < ((t0 + v : Nat) : Int)
  · rw [if_pos hc]
    by_cases hp : 0 < x i
    · rw [if_pos ⟨hc.1, hc.2.1, hin i hi hc.1 hc.2.1 hc.2.2 hp⟩]; exact Int.le_refl _
    · split <;> omega
  · rw [if_neg hc]
    split <;> omega

/- Jobs of tasks of two levels that are played: kt whose, r when, tk how long; ran: how long each has run ahead of a tick; Tn: the tick in which the mode turns. -/
structure MRun (n N Tn : Nat) (kt : Nat → Nat) (r tk : Nat → Int) (C P : Nat → Int) (hi : Nat → Prop) (ran : Nat → Nat → Int) : Prop where
  r0 : ∀ i, i < n → 0 ≤ r i
  tk0 : ∀ i, i < n → 1 ≤ tk i
  init : ∀ i, i < n → ran 0 i = 0
  pre : ∀ t i, t ≤ N → t ≤ Tn → i < n → ran t i ≤ C (kt i) ∧ (ran t i = C (kt i) → tk i ≤ C (kt i))
  step : ∀ t, t < N → ((∀ i, i < n → ran (t + 1) i = ran t i) ∧ ∀ i, i < n → r i ≤ t → (hi (kt i) ∨ t ≤ Tn) → tk i ≤ ran t i) ∨
    ∃ k, k < n ∧ r k ≤ t ∧ ran t k < tk k ∧ (hi (kt k) ∨ t ≤ Tn) ∧ ran (t + 1) k = ran t k + 1 ∧ (∀ i, i < n → i ≠ k → ran (t + 1) i = ran t i) ∧ ∀ i, i < n → r i ≤ t → (hi (kt i) ∨ t ≤ Tn) → ran t i < tk i → P (kt i) ≤ P (kt k)

theorem MRun.up {n N Tn : Nat} {kt : Nat → Nat} {r tk C P : Nat → Int} {hi : Nat → Prop} {ran : Nat → Nat → Int} (h : MRun n N Tn kt r tk C P hi ran) {i : Nat} (hi' : i < n) : ∀ t, t ≤ N → 0 ≤ ran t i ∧ ran t i ≤ tk i
  | 0, _ => by have := h.init i hi'; have := h.tk0 i hi'; omega
  | t + 1, ht => by
    have ih := h.up hi' t (by omega)
    rcases h.step t (by omega) with ⟨h1, -⟩ | ⟨k, -, -, h2, -, h3, h4, -⟩
    · rw [h1 i hi']; exact ih
    · by_cases e : i = k
      · subst e; omega
      · rw [h4 i hi' e]; exact ih

/-- What isn't waiting any more runs no more. -/
theorem MRun.stays {n N Tn : Nat} {kt : Nat → Nat} {r tk C P : Nat → Int} {hi : Nat → Prop} {ran : Nat → Nat → Int} (h : MRun n N Tn kt r tk C P hi ran) {i t : Nat} (hi' : i < n) (hz : tk i ≤ ran t i ∨ (¬ hi (kt i) ∧ Tn < t)) : ∀ d, t + d ≤ N → ran (t + d) i = ran t i
  | 0, _ => rfl
  | d + 1, hd => by
    have ih := h.stays hi' hz d (by omega)
    rw [show t + (d + 1) = t + d + 1 by omega]
    rcases h.step (t + d) (by omega) with ⟨h1, -⟩ | ⟨k, -, -, h2, h5, h3, h4, -⟩
    · rw [h1 i hi', ih]
    · by_cases e : i = k
      · subst e
        rcases hz with hz | ⟨hz1, hz2⟩
        · omega
        · rcases h5 with h5 | h5
          · exact absurd h5 hz1
          · omega
      · rw [h4 i hi' e, ih]

theorem MRun.mono {n N Tn : Nat} {kt : Nat → Nat} {r tk C P : Nat → Int} {hi : Nat → Prop} {ran : Nat → Nat → Int} (h : MRun n N Tn kt r tk C P hi ran) {i : Nat} (hi' : i < n) (t : Nat) : ∀ d, t + d ≤ N → ran t i ≤ ran (t + d) i
  | 0, _ => Int.le_refl _
  | d + 1, hd => by
    have ih := h.mono hi' t d (by omega)
    rw [show t + (d + 1) = t + d + 1 by omega]
    rcases h.step (t + d) (by omega) with ⟨h1, -⟩ | ⟨k, -, -, -, -, h3, h4, -⟩
    · rw [h1 i hi']; exact ih
    · by_cases e : i = k
      · subst e; omega
      · rw [h4 i hi' e]; exact ih

/-- Up to the turn: as if each took C at most. -/
theorem MRun.before {n N Tn : Nat} {kt : Nat → Nat} {r tk C P : Nat → Int} {hi : Nat → Prop} {ran : Nat → Nat → Int} (h : MRun n N Tn kt r tk C P hi ran) (p : Int) : Run n (min N Tn) r (fun i => min (tk i) (C (kt i))) (fun i => p ≤ P (kt i)) (fun t i => min (tk i) (C (kt i)) - ran t i) where
  r0 := h.r0
  init := fun i hi' => by show _ - ran 0 i = _; rw [h.init i hi']; omega
  nneg := fun t i ht hi' => by
    have h1 := (h.pre t i (by omega) (by omega) hi').1
    have h2 := (h.up hi' t (by omega)).2
    show 0 ≤ _ - ran t i
    omega
  step := fun t ht => by
    rcases h.step t (by omega) with ⟨h1, h2⟩ | ⟨k, hk, hr, h2, -, h3, h4, h5⟩
    · refine .inl ⟨fun i hi' => by show _ - ran (t + 1) i = _ - ran t i; rw [h1 i hi'], fun i hi' _ hr => ?_⟩
      have a1 := h2 i hi' hr (.inr (by omega))
      have a2 := (h.pre t i (by omega) (by omega) hi').1
      have a3 := (h.up hi' t (by omega)).2
      show _ - ran t i = 0
      omega
    · refine .inr ⟨k, hk, hr, ?_, ?_, fun i hi' hne => by show _ - ran (t + 1) i = _ - ran t i; rw [h4 i hi' hne], ?_⟩
      · have a := h.pre t k (by omega) (by omega) hk
        show 0 < _ - ran t k
        by_cases e : ran t k = C (kt k)
        · have := a.2 e; omega
        · omega
      · show _ - ran (t + 1) k = _ - ran t k - 1
        omega
      · by_cases hp : p ≤ P (kt k)
        · exact .inl hp
        · refine .inr (fun i hi' hHi hri => ?_)
          show _ - ran t i = 0
          have a1 := (h.pre t i (by omega) (by omega) hi').1
          have a2 := (h.up hi' t (by omega)).2
          by_cases e : ran t i < tk i
          · have := h5 i hi' hri (.inr (by omega)) e
            omega
          · omega

/-- All the time: a low one asks for what it runs. -/
theorem MRun.whole {n N Tn : Nat} {kt : Nat → Nat} {r tk C P : Nat → Int} {hi : Nat → Prop} [DecidablePred hi] {ran : Nat → Nat → Int} (h : MRun n N Tn kt r tk C P hi ran) (p : Int) : Run n N r (fun i => if hi (kt i) then tk i else ran N i) (fun i => p ≤ P (kt i)) (fun t i => (if hi (kt i) then tk i else ran N i) - ran t i) where
  r0 := h.r0
  init := fun i hi' => by show _ - ran 0 i = _; rw [h.init i hi']; omega
  nneg := fun t i ht hi' => by
    have h1 := (h.up hi' t (by omega)).2
    have h2 := h.mono hi' t (N - t) (by omega)
    rw [show t + (N - t) = N by omega] at h2
    show 0 ≤ _ - ran t i
    split <;> omega
  step := fun t ht => by
    have fin : ∀ i, i < n → (tk i ≤ ran t i ∨ (¬ hi (kt i) ∧ Tn < t)) → (if hi (kt i) then tk i else ran N i) - ran t i = 0 := fun i hi' hz => by
      have h1 := (h.up hi' t (by omega)).2
      have h2 := h.stays hi' hz (N - t) (by omega)
      rw [show t + (N - t) = N by omega] at h2
      split
      · rename_i hh
        rcases hz with hz | ⟨hz, -⟩
        · omega
        · exact absurd hh hz
      · omega
    rcases h.step t (by omega) with ⟨h1, h2⟩ | ⟨k, hk, hr, h2, h6, h3, h4, h5⟩
    · refine .inl ⟨fun i hi' => by show _ - ran (t + 1) i = _ - ran t i; rw [h1 i hi'], fun i hi' _ hri => fin i hi' ?_⟩
      by_cases e : hi (kt i) ∨ t ≤ Tn
      · exact .inl (h2 i hi' hri e)
      · exact .inr ⟨fun g => e (.inl g), by have : ¬ t ≤ Tn := fun g => e (.inr g); omega⟩
    · refine .inr ⟨k, hk, hr, ?_, ?_, fun i hi' hne => by show _ - ran (t + 1) i = _ - ran t i; rw [h4 i hi' hne], ?_⟩
      · have a := h.mono hk (t + 1) (N - (t + 1)) (by omega)
        rw [show t + 1 + (N - (t + 1)) = N by omega] at a
        show 0 < _ - ran t k
        split <;> omega
      · show _ - ran (t + 1) k = _ - ran t k - 1
        omega
      · by_cases hp : p ≤ P (kt k)
        · exact .inl hp
        · refine .inr (fun i hi' hHi hri => fin i hi' ?_)
          by_cases e : hi (kt i) ∨ t ≤ Tn
          · by_cases e2 : ran t i < tk i
            · have := h5 i hi' hri e e2
              omega
            · exact .inl (by omega)
          · exact .inr ⟨fun g => e (.inl g), by have : ¬ t ≤ Tn := fun g => e (.inr g); omega⟩

/-- A job is done within W, ahead of the turn; or the turn comes within W of a quiet time. -/
theorem MRun.well {n N Tn m : Nat} {kt : Nat → Nat} {r tk C P T : Nat → Int} {hi : Nat → Prop} {ran : Nat → Nat → Int} (h : MRun n N Tn kt r tk C P hi ran)
    (hk : ∀ i, i < n → kt i < m) (hpos : ∀ k, k < m → 0 < T k ∧ 0 ≤ C k) (hsp : ∀ i j, i < j → j < n → kt i = kt j → r i + T (kt i) ≤ r j)
    {i mi W : Nat} (hi' : i < n) (hm : r i = (mi : Int)) (hW1 : 1 ≤ W) (hWT : (W : Int) ≤ T (kt i))
    (hW : C (kt i) + sumN m (fun k => if k ≠ kt i ∧ P (kt i) ≤ P k then ((W : Int) + 0 + T k - 1) / T k * C k else 0) ≤ (W : Int)) :
    (∃ q, mi < q ∧ q ≤ mi + W ∧ q ≤ min N Tn ∧ ran q i = tk i) ∨
      ∃ t0, t0 ≤ mi ∧ t0 ≤ min N Tn ∧ Quiet n r (fun j => P (kt i) ≤ P (kt j)) (fun t j => min (tk j) (C (kt j)) - ran t j) t0 ∧ min N Tn < t0 + W := by
  have hs : ∀ t0 : Nat, t0 ≤ mi → sumN n (fun j => if P (kt i) ≤ P (kt j) ∧ (t0 : Int) ≤ r j ∧ r j < ((t0 + W : Nat) : Int) then min (tk j) (C (kt j)) else 0) ≤ (W : Int) := fun t0 _ => by
    refine Int.le_trans (all_sumK (a := r) (r := r) (kt := kt) (Hk := fun k => P (kt i) ≤ P k) (J := fun _ => 0) (T := T) (C := C) (W := fun _ => W) (k0 := kt i) (t0 := t0) hk (hk i hi') (fun k hk' => ⟨(hpos k hk').1, (hpos k hk').2, Int.le_refl _⟩) (fun j _ => ⟨Int.le_refl _, by omega, by omega⟩) hsp (by omega)) hW
  rcases early (h.before (P (kt i))) (i := i) (m := mi) (w := W) (Tn := min N Tn) hi' (Int.le_refl _) hm hW1 (Nat.le_refl _) hs with ⟨q, q1, q2, q3, q4⟩ | ⟨t0, a, b, c, d⟩
  · refine .inl ⟨q, q1, q2, q3, ?_⟩
    have e : min (tk i) (C (kt i)) - ran q i = 0 := q4
    have p := h.pre q i (by omega) (by omega) hi'
    by_cases hc : ran q i = C (kt i)
    · have := p.2 hc; omega
    · omega
  · exact .inr ⟨t0, a, b, c, d⟩

/-- A high job is done within V where the turn comes within W of a quiet time. -/
theorem MRun.ill {n N Tn m : Nat} {kt : Nat → Nat} {r tk C D P T : Nat → Int} {hi : Nat → Prop} [DecidablePred hi] {ran : Nat → Nat → Int} (h : MRun n N Tn kt r tk C P hi ran)
    (hk : ∀ i, i < n → kt i < m) (hpos : ∀ k, k < m → 0 < T k ∧ 0 ≤ C k ∧ 0 ≤ D k) (hsp : ∀ i j, i < j → j < n → kt i = kt j → r i + T (kt i) ≤ r j)
    (htk : ∀ i, i < n → tk i ≤ if hi (kt i) then D (kt i) else C (kt i))
    {i mi W V : Nat} (hi' : i < n) (hH : hi (kt i)) (hm : r i = (mi : Int)) (hV1 : 1 ≤ V) (hVT : (V : Int) ≤ T (kt i)) (hN : mi + V ≤ N)
    (hV : D (kt i) + sumN m (fun k => if k ≠ kt i ∧ P (kt i) ≤ P k then (((if hi k then V else W : Nat) : Int) + 0 + T k - 1) / T k * (if hi k then D k else C k) else 0) ≤ (V : Int))
    {t1 : Nat} (ht : t1 ≤ mi) (ht2 : t1 ≤ min N Tn) (hq : Quiet n r (fun j => P (kt i) ≤ P (kt j)) (fun t j => min (tk j) (C (kt j)) - ran t j) t1) (hT : Tn < t1 + W) : ran (mi + V) i = tk i := by
  have hq2 : Quiet n r (fun j => P (kt i) ≤ P (kt j)) (fun t j => (if hi (kt j) then tk j else ran N j) - ran t j) t1 := quiet_of (fun j hj hz => by
    have e : min (tk j) (C (kt j)) - ran t1 j = 0 := hz
    have p := h.pre t1 j (by omega) (by omega) hj
    have hd : ran t1 j = tk j := by
      by_cases hc : ran t1 j = C (kt j)
      · have := p.2 hc; omega
      · omega
    have s := h.stays hj (t := t1) (.inl (by omega)) (N - t1) (by omega)
    rw [show t1 + (N - t1) = N by omega] at s
    show (if hi (kt j) then tk j else ran N j) - ran t1 j = 0
    split <;> omega) hq
  have low : ∀ j, j < n → ¬ hi (kt j) → (Tn : Int) < r j → ran N j = 0 := fun j hj hl hr => by
    have key : ∀ t, t ≤ N → ran t j = 0 := fun t => by
      induction t with
      | zero => intro _; exact h.init j hj
      | succ t ih =>
        intro ht'
        rcases h.step t (by omega) with ⟨h1, -⟩ | ⟨k, -, h2, -, h5, -, h4, -⟩
        · rw [h1 j hj, ih (by omega)]
        · by_cases e : j = k
          · subst e
            rcases h5 with h5 | h5
            · exact absurd h5 hl
            · omega
          · rw [h4 j hj e, ih (by omega)]
    exact key N (Nat.le_refl _)
  have R := h.whole (P (kt i))
  have hz := late R (i := i) (m := mi) (v := V) (w := W) (Tn := Tn) (t1 := t1) hi' (Int.le_refl _) hm hV1 hN ht hq2 hT (fun t0 _ hT0 => by
    have := all_sumW (n := n) (m := m) (a := r) (r := r) (x := fun j => if hi (kt j) then tk j else ran N j) (kt := kt) (Hk := fun k => P (kt i) ≤ P k) (J := fun _ => 0) (T := T) (C := fun k => if hi k then D k else C k) (W := fun k => if hi k then V else W) (k0 := kt i) (t0 := t0) (v := V)
      hk (hk i hi') (fun k hk' => ⟨(hpos k hk').1, by split; exact (hpos k hk').2.2; exact (hpos k hk').2.1, Int.le_refl _⟩)
      (fun j hj => by
        have a := h.tk0 j hj
        have b := (h.up hj N (Nat.le_refl _)).1
        split <;> omega)
      (fun j hj => ⟨Int.le_refl _, by omega, by
        have a := htk j hj
        have b := (h.up hj N (Nat.le_refl _)).2
        split
        · rw [if_pos (by assumption)] at a; exact a
        · rw [if_neg (by assumption)] at a; omega⟩)
      (fun j hj _ g1 g2 g3 => by
        by_cases hh : hi (kt j)
        · rw [if_pos hh]; exact g2
        · rw [if_neg hh] at g3 ⊢
          apply Classical.byContradiction
          intro hc
          have := low j hj hh (by omega)
          omega) hsp (by rw [if_pos hH]; omega)
    refine Int.le_trans this ?_
    rw [if_pos hH]
    exact hV)
  have e : (if hi (kt i) then tk i else ran N i) - ran (mi + V) i = 0 := hz
  rw [if_pos hH] at e
  omega
end MK

end Go.Proofs.YtccoobcggbbciaiGreatDoor
namespace Go.Proofs.YtccoobcggbbciaiGreatDoor
open Go.ChangeShapes Go.WideShapes Go.ChangeAt Go.RowKit

/-- What is left of those that still count, once the mode has turned. -/
def vis (hi : Nat → Bool) (T : Int) (left : List Int) : List Int := if T < 0 then left else left.mapIdx fun i v => if hi i then v else 0

theorem L_vis {hi : Nat → Bool} {T : Int} {left : List Int} {i : Nat} : S8.L (vis hi T left) i = if T < 0 ∨ hi i = true then S8.L left i else 0 := by
  unfold vis
  by_cases hT : T < 0
  · simp [hT]
  · rw [if_neg hT]
    unfold S8.L
    rw [List.getD_eq_getElem?_getD, List.getD_eq_getElem?_getD, List.getElem?_mapIdx]
    cases left[i]? with
    | none => simp
    | some v => by_cases h : hi i = true <;> simp [hT, h]

theorem vis_len {hi : Nat → Bool} {T : Int} {left : List Int} : (vis hi T left).length = left.length := by
  unfold vis; split <;> simp

/-- When the mode turns. -/
def turnT (l : List Jb) (cl : Nat → Int) (T : Int) (s : S8.St) (t : Nat) (b : Int) : Int :=
  if T = -1 ∧ 0 ≤ b ∧ (S8.J l b.toNat).c - (S8.L s.left b.toNat - 1) = cl b.toNat ∧ cl b.toNat < (S8.J l b.toNat).c then (t : Int) + 1 else T

/-- Jobs of two levels are played. -/
def PlaysT (l : List Jb) (hi : Nat → Bool) (cl : Nat → Int) : Nat → S8.St → Int → Prop
  | 0, s, T => s = S8.St.init l ∧ T = -1
  | t + 1, s, T => ∃ s0 T0 b, PlaysT l hi cl t s0 T0 ∧ S8.IsBest l 1 (vis hi T0 s0.left) (t : Int) b ∧ s = s0.after t b ∧ T = turnT l cl T0 s0 t b

theorem best_rng {l : List Jb} {hi : Nat → Bool} {T t b : Int} {left : List Int} (h : S8.IsBest l 1 (vis hi T left) t b) : b = -1 ∨ (∃ i : Nat, b = (i : Int) ∧ i < l.length ∧ 0 < S8.L left i ∧ (T < 0 ∨ hi i = true)) := by
  rcases h with ⟨rfl, -⟩ | ⟨i, rfl, hl, -, h2, -⟩
  · exact .inl rfl
  · rw [L_vis] at h2
    split at h2
    · rename_i h3
      exact .inr ⟨i, rfl, hl, h2, h3⟩
    · omega

theorem ok_afterT {l : List Jb} {t : Nat} {s : S8.St} {b : Int} (h : S8.Ok l t s) (hp : b = -1 ∨ (∃ i : Nat, b = (i : Int) ∧ i < l.length ∧ 0 < S8.L s.left i)) : S8.Ok l (t + 1) (s.after t b) := by
  rcases hp with rfl | ⟨i, rfl, hi, h0⟩
  · have e : s.after t (-1) = ⟨s.left, s.ends, s.runs ++ [-1]⟩ := rfl
    rw [e]
    exact ⟨h.left, h.ends, by simp [h.runs], h.nneg, h.small, fun r hr => by
      rcases List.mem_append.1 hr with hr | hr
      · exact h.rng r hr
      · simp at hr; exact .inl hr⟩
  · have hil : i < s.left.length := by rw [h.left]; exact hi
    have e : s.after t (i : Int) = ⟨s.left.set i (S8.L s.left i - 1), if S8.L s.left i - 1 = 0 then s.ends.set i ((t : Int) + 1) else s.ends, s.runs ++ [(i : Int)]⟩ := by
      unfold S8.St.after
      rw [if_neg (by omega), Int.toNat_natCast]
    rw [e]
    refine ⟨by simp [h.left], ?_, by simp [h.runs], fun j => ?_, fun j => ?_, fun r hr => ?_⟩
    · dsimp only
      split
      · rw [List.length_set]; exact h.ends
      · exact h.ends
    · dsimp only
      rw [S8.L_set hil]
      split
      · omega
      · exact h.nneg j
    · dsimp only
      rw [S8.L_set hil]
      have := h.small i
      split
      · omega
      · exact h.small j
    · rcases List.mem_append.1 hr with hr | hr
      · exact h.rng r hr
      · simp at hr; exact .inr ⟨by omega, by omega⟩

theorem playsT_ok {l : List Jb} {hi : Nat → Bool} {cl : Nat → Int} (hl : ∀ x ∈ l, S8.okJ x) : ∀ (t : Nat) (s : S8.St) (T : Int), PlaysT l hi cl t s T → S8.Ok l t s
  | 0, s, T, h => by rw [h.1]; exact S8.ok_init hl
  | t + 1, s, T, ⟨s0, T0, b, h1, h2, h3, _⟩ => by
    rw [h3]
    refine ok_afterT (playsT_ok hl t s0 T0 h1) ?_
    rcases best_rng h2 with h | ⟨i, e, h, h', -⟩
    · exact .inl h
    · exact .inr ⟨i, e, h, h'⟩

theorem playsT_turn {l : List Jb} {hi : Nat → Bool} {cl : Nat → Int} : ∀ (t : Nat) (s : S8.St) (T : Int), PlaysT l hi cl t s T → T = -1 ∨ (1 ≤ T ∧ T ≤ (t : Int))
  | 0, s, T, h => .inl h.2
  | t + 1, s, T, ⟨s0, T0, b, h1, _, _, h4⟩ => by
    have ih := playsT_turn t s0 T0 h1
    unfold turnT at h4
    split at h4 <;> omega

theorem playsT_unique {l : List Jb} {hi : Nat → Bool} {cl : Nat → Int} : ∀ (t : Nat) (s s' : S8.St) (T T' : Int), PlaysT l hi cl t s T → PlaysT l hi cl t s' T' → s = s' ∧ T = T'
  | 0, s, s', T, T', h, h' => ⟨by rw [h.1, h'.1], by rw [h.2, h'.2]⟩
  | t + 1, s, s', T, T', ⟨s0, T0, b, h1, h2, h3, h4⟩, ⟨s1, T1, b', g1, g2, g3, g4⟩ => by
    obtain ⟨e, e'⟩ := playsT_unique t s0 s1 T0 T1 h1 g1
    subst e e'
    have e2 := S8.isBest_unique h2 g2
    subst e2
    exact ⟨by rw [h3, g3], by rw [h4, g4]⟩

theorem plays_seqT {l : List Jb} {hi : Nat → Bool} {cl : Nat → Int} : ∀ (t : Nat) (s : S8.St) (T : Int), PlaysT l hi cl t s T → ∃ (f : Nat → S8.St) (g : Nat → Int), f t = s ∧ g t = T ∧ (∀ u, u ≤ t → PlaysT l hi cl u (f u) (g u)) ∧ ∀ u, u < t → ∃ b, S8.IsBest l 1 (vis hi (g u) (f u).left) (u : Int) b ∧ f (u + 1) = (f u).after u b ∧ g (u + 1) = turnT l cl (g u) (f u) u b
  | 0, s, T, h => ⟨fun _ => s, fun _ => T, rfl, rfl, fun u hu => by rw [show u = 0 by omega]; exact h, fun u hu => by omega⟩
  | t + 1, s, T, h => by
    obtain ⟨s0, T0, b, h1, h2, h3, h4⟩ := id h
    obtain ⟨f, g, e, e', hp, hs⟩ := plays_seqT t s0 T0 h1
    refine ⟨fun u => if u ≤ t then f u else s, fun u => if u ≤ t then g u else T, by dsimp only; rw [if_neg (by omega)], by dsimp only; rw [if_neg (by omega)], fun u hu => ?_, fun u hu => ?_⟩
    · dsimp only
      by_cases hc : u ≤ t
      · rw [if_pos hc, if_pos hc]; exact hp u hc
      · rw [if_neg hc, if_neg hc, show u = t + 1 by omega]; exact h
    · dsimp only
      by_cases hc : u + 1 ≤ t
      · rw [if_pos hc, if_pos hc, if_pos (show u ≤ t by omega), if_pos (show u ≤ t by omega)]
        exact hs u (by omega)
      · have hu' : u = t := by omega
        subst hu'
        rw [if_neg hc, if_neg hc, if_pos (Nat.le_refl u), if_pos (Nat.le_refl u), e, e']
        exact ⟨b, h2, h3, h4⟩

theorem after_someT {s : S8.St} {t i : Nat} : s.after t (i : Int) = ⟨s.left.set i (S8.L s.left i - 1), if S8.L s.left i - 1 = 0 then s.ends.set i ((t : Int) + 1) else s.ends, s.runs ++ [(i : Int)]⟩ := by
  unfold S8.St.after
  rw [if_neg (by omega), Int.toNat_natCast]

/-- When the mode has turned, all the time. -/
theorem turn_all {l : List Jb} {cl : Nat → Int} {f : Nat → S8.St} {g : Nat → Int} (g0 : g 0 = -1) : ∀ N : Nat, (∀ u, u < N → ∃ b, g (u + 1) = turnT l cl (g u) (f u) u b) → (∀ v, v ≤ N → g v = -1) ∨ ∃ Tn : Nat, Tn < N ∧ ∀ v, v ≤ N → g v = if v ≤ Tn then -1 else (Tn : Int) + 1
  | 0, _ => .inl fun v hv => by rw [show v = 0 by omega]; exact g0
  | N + 1, hs => by
    obtain ⟨b, hb⟩ := hs N (by omega)
    rcases turn_all g0 N (fun u hu => hs u (by omega)) with h | ⟨Tn, hT, h⟩
    · have hN := h N (Nat.le_refl _)
      unfold turnT at hb
      split at hb
      · refine .inr ⟨N, by omega, fun v hv => ?_⟩
        by_cases hc : v ≤ N
        · rw [if_pos hc]; exact h v hc
        · rw [if_neg hc, show v = N + 1 by omega]; exact hb
      · refine .inl fun v hv => ?_
        by_cases hc : v ≤ N
        · exact h v hc
        · rw [show v = N + 1 by omega, hb, hN]
    · have hN := h N (Nat.le_refl _)
      rw [if_neg (by omega)] at hN
      unfold turnT at hb
      rw [if_neg (by omega)] at hb
      refine .inr ⟨Tn, by omega, fun v hv => ?_⟩
      by_cases hc : v ≤ N
      · exact h v hc
      · rw [show v = N + 1 by omega, hb, hN, if_neg (by omega)]

/-- What was played is a run of jobs of two levels. -/
theorem mrun_of {js : List Jb} {hi : Nat → Bool} {cl : Nat → Int} {N Tn : Nat} {f : Nat → S8.St} {g : Nat → Int} (hok : ∀ x ∈ js, S8.okJ x) (hp : ∀ u, u ≤ N → PlaysT js hi cl u (f u) (g u)) (hs : ∀ u, u < N → ∃ b, S8.IsBest js 1 (vis hi (g u) (f u).left) (u : Int) b ∧ f (u + 1) = (f u).after u b ∧ g (u + 1) = turnT js cl (g u) (f u) u b)
    (hg : ∀ v, v ≤ N → g v = if v ≤ Tn then -1 else (Tn : Int) + 1) {kt : Nat → Nat} {C P : Nat → Int} {hk : Nat → Prop} [DecidablePred hk] (hcl : ∀ i, i < js.length → cl i = C (kt i) ∧ 1 ≤ C (kt i) ∧ (S8.J js i).p = P (kt i) ∧ (hi i = true ↔ hk (kt i))) :
    MK.MRun js.length N Tn kt (fun i => (S8.J js i).a) (fun i => (S8.J js i).c) C P hk (fun t i => (S8.J js i).c - S8.L (f t).left i) := by
  have hO : ∀ u, u ≤ N → S8.Ok js u (f u) := fun u hu => playsT_ok hok u _ _ (hp u hu)
  have hJ : ∀ i, i < js.length → S8.okJ (S8.J js i) ∧ js[i]? = some (S8.J js i) := fun i hi => by
    have e : js[i]? = some (S8.J js i) := by unfold S8.J; rw [List.getD_eq_getElem?_getD]; simp [hi]
    exact ⟨hok _ (List.mem_of_getElem? e), e⟩
  have hini : ∀ i, i < js.length → S8.L (f 0).left i = (S8.J js i).c := fun i hi => by
    have h0 : f 0 = S8.St.init js := (hp 0 (Nat.zero_le _)).1
    rw [h0]
    unfold S8.L S8.St.init
    dsimp only
    rw [List.getD_eq_getElem?_getD, List.getElem?_map, (hJ i hi).2]
    rfl
  have hset : ∀ t, t ≤ N → ∀ k, k < js.length → ∀ j, S8.L ((f t).after t (k : Int)).left j = if j = k then S8.L (f t).left k - 1 else S8.L (f t).left j := fun t ht k hk j => by
    rw [after_someT]
    exact S8.L_set (by rw [(hO t ht).left]; exact hk)
  have hv : ∀ t, t ≤ N → ∀ i, i < js.length → S8.L (vis hi (g t) (f t).left) i = if hk (kt i) ∨ t ≤ Tn then S8.L (f t).left i else 0 := fun t ht i hil => by
    rw [L_vis, hg t ht]
    by_cases hc : t ≤ Tn
    · rw [if_pos hc, if_pos (.inl (by omega)), if_pos (.inr hc)]
    · rw [if_neg hc]
      by_cases hh : hi i = true
      · rw [if_pos (.inr hh), if_pos (.inl ((hcl i hil).2.2.2.1 hh))]
      · rw [if_neg (by intro h; rcases h with h | h; omega; exact hh h), if_neg (by intro h; rcases h with h | h; exact hh ((hcl i hil).2.2.2.2 h); exact hc h)]
  refine ⟨fun i hi' => (hJ i hi').1.1, fun i hi' => (hJ i hi').1.2.2.1, fun i hi' => by show _ - S8.L (f 0).left i = 0; rw [hini i hi']; omega, ?_, fun t ht => ?_⟩
  · intro t
    induction t with
    | zero =>
      intro i _ _ hi'
      have := (hcl i hi').2.1
      show (S8.J js i).c - S8.L (f 0).left i ≤ _ ∧ _
      rw [hini i hi']
      exact ⟨by omega, fun h => by omega⟩
    | succ t ih =>
      intro i htN htT hi'
      have ih' := ih i (by omega) (by omega) hi'
      obtain ⟨b, hb, he, hge⟩ := hs t (by omega)
      have gt := hg t (by omega)
      have gt1 := hg (t + 1) htN
      rw [if_pos (by omega)] at gt
      rw [if_pos htT] at gt1
      try dsimp only at ih' ⊢
      rcases best_rng hb with rfl | ⟨k, rfl, hkl, hk0, -⟩
      · rw [he]; exact ih'
      · rw [he, hset t (by omega) k hkl]
        by_cases e : i = k
        · subst e
          rw [if_pos rfl]
          obtain ⟨c1, c2, -, -⟩ := hcl i hi'
          have hlt : (S8.J js i).c - S8.L (f t).left i < C (kt i) := by
            by_cases h9 : (S8.J js i).c - S8.L (f t).left i = C (kt i)
            · have := ih'.2 h9; omega
            · have := ih'.1; omega
          refine ⟨by omega, fun h => ?_⟩
          unfold turnT at hge
          rw [Int.toNat_natCast, gt, gt1] at hge
          by_cases hlc : cl i < (S8.J js i).c
          · rw [if_pos ⟨rfl, by omega, by omega, hlc⟩] at hge
            omega
          · omega
        · rw [if_neg e]; exact ih'
  · obtain ⟨b, hb, he, -⟩ := hs t ht
    have hn := (hO t (by omega)).nneg
    rcases hb with ⟨rfl, hb⟩ | ⟨k, rfl, hkl, h1, h2, h3⟩
    · refine .inl ⟨fun i hi' => ?_, fun i hi' hr hh => ?_⟩
      · show _ - S8.L (f (t + 1)).left i = _
        rw [he]; rfl
      · have h9 := hb i hi'
        rw [hv t (by omega) i hi', if_pos hh] at h9
        have := hn i
        show _ ≤ _ - S8.L (f t).left i
        have hr' : (S8.J js i).a ≤ (t : Int) := hr
        omega
    · rw [hv t (by omega) k hkl] at h2
      have hh : hk (kt k) ∨ t ≤ Tn := by
        apply Classical.byContradiction
        intro hc
        rw [if_neg hc] at h2
        omega
      rw [if_pos hh] at h2
      refine .inr ⟨k, hkl, h1, ?_, hh, ?_, fun i hi' hne => ?_, fun i hi' hr hhi hlt => ?_⟩
      · show (S8.J js k).c - S8.L (f t).left k < (S8.J js k).c
        omega
      · show (S8.J js k).c - S8.L (f (t + 1)).left k = (S8.J js k).c - S8.L (f t).left k + 1
        rw [he, hset t (by omega) k hkl, if_pos rfl]
        omega
      · show (S8.J js i).c - S8.L (f (t + 1)).left i = (S8.J js i).c - S8.L (f t).left i
        rw [he, hset t (by omega) k hkl, if_neg hne]
      · have hlt' : (S8.J js i).c - S8.L (f t).left i < (S8.J js i).c := hlt
        rw [← (hcl i hi').2.2.1, ← (hcl k hkl).2.2.1]
        by_cases e : i = k
        · rw [e]; exact Int.le_refl _
        · have := h3 i hi' hr (by rw [hv t (by omega) i hi', if_pos hhi]; omega) e
          unfold S8.lexJ S8.lex S8.key at this
          simp only [if_true] at this
          omega

theorem ends_ofT {js : List Jb} {hi : Nat → Bool} {cl : Nat → Int} {N : Nat} {f : Nat → S8.St} {g : Nat → Int} (hok : ∀ x ∈ js, S8.okJ x) (hp : ∀ u, u ≤ N → PlaysT js hi cl u (f u) (g u)) (hs : ∀ u, u < N → ∃ b, S8.IsBest js 1 (vis hi (g u) (f u).left) (u : Int) b ∧ f (u + 1) = (f u).after u b ∧ g (u + 1) = turnT js cl (g u) (f u) u b) :
    ∀ u, u ≤ N → ∀ i, i < js.length → ∀ q, q ≤ u → S8.L (f q).left i = 0 → ∃ e, (f u).ends[i]? = some e ∧ 1 ≤ e ∧ e ≤ (q : Int) := by
  have hO : ∀ u, u ≤ N → S8.Ok js u (f u) := fun u hu => playsT_ok hok u _ _ (hp u hu)
  have hmono : ∀ u, u < N → ∀ i, i < js.length → S8.L (f u).left i = 0 → S8.L (f (u + 1)).left i = 0 := fun u hu i hi' hz => by
    obtain ⟨b, hb, he, -⟩ := hs u hu
    rcases best_rng hb with rfl | ⟨k, rfl, hkl, hk0, -⟩
    · rw [he]; exact hz
    · rw [he, after_someT]
      show S8.L ((f u).left.set k _) i = 0
      rw [S8.L_set (by rw [(hO u (by omega)).left]; exact hkl)]
      by_cases e : i = k
      · subst e; omega
      · rw [if_neg e]; exact hz
  have hmono' : ∀ d q, q + d ≤ N → ∀ i, i < js.length → S8.L (f q).left i = 0 → S8.L (f (q + d)).left i = 0 := fun d => by
    induction d with
    | zero => intro q _ i _ h; exact h
    | succ d ih => intro q hq i hi' h; exact hmono (q + d) (by omega) i hi' (ih q (by omega) i hi' h)
  intro u
  induction u with
  | zero =>
    intro _ i hi' q hq hz
    rw [show q = 0 by omega, (hp 0 (Nat.zero_le _)).1] at hz
    have e : js[i]? = some (S8.J js i) := by unfold S8.J; rw [List.getD_eq_getElem?_getD]; simp [hi']
    have h2 := (hok _ (List.mem_of_getElem? e)).2.2.1
    unfold S8.L S8.St.init at hz
    dsimp only at hz
    rw [List.getD_eq_getElem?_getD, List.getElem?_map, e] at hz
    have hz' : (S8.J js i).c = 0 := hz
    omega
  | succ u ih =>
    intro hu i hi' q hq hz
    obtain ⟨b, hb, he, -⟩ := hs u (by omega)
    have hO' := hO u (by omega)
    have hpick := best_rng hb
    by_cases hzu : S8.L (f u).left i = 0
    · have hq' : ∃ q', q' ≤ u ∧ q' ≤ q ∧ S8.L (f q').left i = 0 := by
        by_cases hqu : q ≤ u
        · exact ⟨q, hqu, Nat.le_refl _, hz⟩
        · exact ⟨u, Nat.le_refl _, by omega, hzu⟩
      obtain ⟨q', g1, g2, g3⟩ := hq'
      obtain ⟨e, h1, h2, h3⟩ := ih (by omega) i hi' q' g1 g3
      refine ⟨e, ?_, h2, by omega⟩
      rw [he]
      rcases hpick with rfl | ⟨k, rfl, hk, hpos, -⟩
      · exact h1
      · rw [after_someT]
        have hne : k ≠ i := fun e => by subst e; omega
        show (if S8.L (f u).left k - 1 = 0 then (f u).ends.set k ((u : Int) + 1) else (f u).ends)[i]? = some e
        split
        · rw [List.getElem?_set_ne hne]; exact h1
        · exact h1
    · have hqu : q = u + 1 := by
        apply Classical.byContradiction
        intro hne
        have := hmono' (u - q) q (by omega) i hi' hz
        rw [show q + (u - q) = u by omega] at this
        exact hzu this
      subst hqu
      rw [he] at hz ⊢
      rcases hpick with rfl | ⟨k, rfl, hk, hpos, -⟩
      · exact absurd hz hzu
      · rw [after_someT] at hz ⊢
        dsimp only at hz ⊢
        rw [S8.L_set (by rw [hO'.left]; exact hk)] at hz
        by_cases hik : i = k
        · subst hik
          rw [if_pos rfl] at hz
          rw [if_pos hz]
          refine ⟨(u : Int) + 1, ?_, by omega, by omega⟩
          rw [List.getElem?_set_self (by rw [hO'.ends]; exact hk)]
        · rw [if_neg hik] at hz
          exact absurd hz hzu
end Go.Proofs.YtccoobcggbbciaiGreatDoor
