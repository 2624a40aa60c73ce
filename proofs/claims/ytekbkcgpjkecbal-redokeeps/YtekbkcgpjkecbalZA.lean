import Derived.Test.YtekbkcgpjkecbalSPX
import Derived.Test.YtekbkcgpjkecbalFX
import Derived.Test.YtekbkcgpjkecbalJP
namespace Go.Proofs.Ytekbkcgpjkecbal.FK

/- Sums over the first n. -/
def sumN : Nat → (Nat → Int) → Int
  | 0, _ => 0
  | n + 1, f => sumN n f + f n

theorem sumN_le : ∀ (n : Nat) {f g : Nat → Int}, (∀ i, i < n → f i ≤ g i) → sumN n f ≤ sumN n g
  | 0, _, _, _ => Int.le_refl _
  | n + 1, f, g, h => by
    have h1 := sumN_le n (f := f) (g := g) (fun i hi => h i (by omega))
    have h2 := h n (by omega)
    unfold sumN
    omega

theorem sumN_eq : ∀ (n : Nat) {f g : Nat → Int}, (∀ i, i < n → f i = g i) → sumN n f = sumN n g
  | 0, _, _, _ => rfl
  | n + 1, f, g, h => by
    unfold sumN
    rw [sumN_eq n (fun i hi => h i (by omega)), h n (by omega)]

theorem sumN_nonneg (n : Nat) {f : Nat → Int} (h : ∀ i, i < n → 0 ≤ f i) : 0 ≤ sumN n f := by
  have : sumN n (fun _ => 0) = 0 := by
    induction n with
    | zero => rfl
    | succ n ih => unfold sumN; rw [ih (fun i hi => h i (by omega))]; rfl
  rw [← this]
  exact sumN_le n h

theorem sumN_each : ∀ (n : Nat) {f : Nat → Int}, (∀ i, i < n → 0 ≤ f i) → sumN n f ≤ 0 → ∀ i, i < n → f i = 0
  | 0, _, _, _, i, hi => by omega
  | n + 1, f, h, hs, i, hi => by
    have h1 := sumN_nonneg n (f := f) (fun i hi => h i (by omega))
    have h2 := h n (by omega)
    unfold sumN at hs
    by_cases e : i = n
    · subst e; omega
    · exact sumN_each n (fun i hi => h i (by omega)) (by omega) i (by omega)

theorem sumN_one : ∀ (n : Nat) {f g : Nat → Int} (k : Nat), k < n → g k = f k - 1 → (∀ i, i < n → i ≠ k → g i = f i) → sumN n g = sumN n f - 1
  | 0, _, _, k, hk, _, _ => by omega
  | n + 1, f, g, k, hk, h1, h2 => by
    unfold sumN
    by_cases e : k = n
    · subst e
      rw [sumN_eq k (f := g) (g := f) (fun i hi => h2 i (by omega) (by omega)), h1]
      omega
    · rw [sumN_one n k (by omega) h1 (fun i hi hn => h2 i (by omega) hn), h2 n (by omega) (by omega)]
      omega

theorem sumN_add (n : Nat) (f g : Nat → Int) : sumN n (fun i => f i + g i) = sumN n f + sumN n g := by
  induction n with
  | zero => rfl
  | succ n ih => unfold sumN; rw [ih]; dsimp only; omega

theorem sumN_swap (n m : Nat) (A : Nat → Nat → Int) : sumN n (fun i => sumN m (fun k => A i k)) = sumN m (fun k => sumN n (fun i => A i k)) := by
  induction n with
  | zero =>
    show (0 : Int) = sumN m (fun _ => 0)
    induction m with
    | zero => rfl
    | succ m ih => unfold sumN; rw [← ih]; rfl
  | succ n ih =>
    show sumN n (fun i => sumN m (fun k => A i k)) + sumN m (fun k => A n k) = sumN m (fun k => sumN n (fun i => A i k) + A n k)
    rw [ih, sumN_add]

theorem sumN_pick : ∀ (m : Nat) (k0 : Nat) (v : Int), k0 < m → sumN m (fun k => if k = k0 then v else 0) = v
  | 0, k0, v, h => by omega
  | m + 1, k0, v, h => by
    unfold sumN
    dsimp only
    by_cases e : k0 = m
    · subst e
      rw [if_pos rfl, sumN_eq k0 (g := fun _ => 0) (fun i hi => if_neg (by omega))]
      have : sumN k0 (fun _ => 0) = 0 := by
        clear h
        induction k0 with
        | zero => rfl
        | succ n ih => unfold sumN; rw [ih]; rfl
      rw [this]; omega
    · rw [if_neg (by omega), sumN_pick m k0 v (by omega)]
      omega

/- Jobs that are played: r when they are there, x how long they take, L what is left of each, tick by tick; H those that go ahead. -/
structure Run (n N : Nat) (r x : Nat → Int) (H : Nat → Prop) (L : Nat → Nat → Int) : Prop where
  r0 : ∀ i, i < n → 0 ≤ r i
  init : ∀ i, i < n → L 0 i = x i
  nneg : ∀ t i, t ≤ N → i < n → 0 ≤ L t i
  step : ∀ t, t < N → ((∀ i, i < n → L (t + 1) i = L t i) ∧ ∀ i, i < n → H i → r i ≤ t → L t i = 0) ∨
    ∃ k, k < n ∧ r k ≤ t ∧ 0 < L t k ∧ L (t + 1) k = L t k - 1 ∧ (∀ i, i < n → i ≠ k → L (t + 1) i = L t i) ∧ (H k ∨ ∀ i, i < n → H i → r i ≤ t → L t i = 0)

def Quiet (n : Nat) (r : Nat → Int) (H : Nat → Prop) (L : Nat → Nat → Int) (t : Nat) : Prop := ∀ i, i < n → H i → r i < t → L t i = 0

theorem Run.down {n N : Nat} {r x : Nat → Int} {H : Nat → Prop} {L : Nat → Nat → Int} (h : Run n N r x H L) {i : Nat} (hi : i < n) : ∀ (d t : Nat), t + d ≤ N → L (t + d) i ≤ L t i
  | 0, t, _ => Int.le_refl _
  | d + 1, t, ht => by
    have h1 := h.down hi d t (by omega)
    have : L (t + d + 1) i ≤ L (t + d) i := by
      rcases h.step (t + d) (by omega) with ⟨h2, -⟩ | ⟨k, hk, -, -, h3, h4, -⟩
      · rw [h2 i hi]; exact Int.le_refl _
      · by_cases e : i = k
        · subst e; omega
        · rw [h4 i hi e]; exact Int.le_refl _
    rw [show t + (d + 1) = t + d + 1 by omega]
    omega

theorem Run.zero {n N : Nat} {r x : Nat → Int} {H : Nat → Prop} {L : Nat → Nat → Int} (h : Run n N r x H L) {i t u : Nat} (hi : i < n) (hz : L t i = 0) (htu : t ≤ u) (hu : u ≤ N) : L u i = 0 := by
  have h1 := h.down hi (u - t) t (by omega)
  rw [show t + (u - t) = u by omega] at h1
  have h2 := h.nneg u i hu hi
  omega

/-- The busy time: where all that comes within w takes w at most, there is a quiet time within w. -/
theorem Run.busy {n N : Nat} {r x : Nat → Int} {H : Nat → Prop} [DecidablePred H] {L : Nat → Nat → Int} (h : Run n N r x H L) {t0 w : Nat} (hq : Quiet n r H L t0) (hw : 1 ≤ w) (hN : t0 + w ≤ N)
    (hs : sumN n (fun i => if H i ∧ (t0 : Int) ≤ r i ∧ r i < ((t0 + w : Nat) : Int) then x i else 0) ≤ (w : Int)) : ∃ q, t0 < q ∧ q ≤ t0 + w ∧ Quiet n r H L q := by
  apply Classical.byContradiction
  intro hno
  have hno' : ∀ q, t0 < q → q ≤ t0 + w → ¬ Quiet n r H L q := fun q h1 h2 h3 => hno ⟨q, h1, h2, h3⟩
  let S : Nat → Int := fun t => sumN n (fun i => if H i ∧ (t0 : Int) ≤ r i ∧ r i < ((t0 + w : Nat) : Int) then L t i else 0)
  have key : ∀ d, d ≤ w → S (t0 + d) = S t0 - (d : Int) := by
    intro d
    induction d with
    | zero => intro _; show S t0 = _; omega
    | succ d ih =>
      intro hd
      have hbad := hno' (t0 + d + 1) (by omega) (by omega)
      have hnone : ¬ ∀ i, i < n → H i → r i ≤ ((t0 + d : Nat) : Int) → L (t0 + d) i = 0 := fun hall => hbad fun i hi hHi hr => by
        have hz := hall i hi hHi (by omega)
        exact h.zero hi hz (Nat.le_succ _) (by omega)
      rcases h.step (t0 + d) (by omega) with ⟨-, h2⟩ | ⟨k, hk, hrk, hpos, h3, h4, h5⟩
      · exact absurd h2 hnone
      · rcases h5 with h5 | h5
        · have hlow : (t0 : Int) ≤ r k := by
            apply Classical.byContradiction
            intro hc
            have hz := hq k hk h5 (by omega)
            have := h.zero hk hz (Nat.le_add_right t0 d) (by omega)
            omega
          have hin : H k ∧ (t0 : Int) ≤ r k ∧ r k < ((t0 + w : Nat) : Int) := ⟨h5, hlow, by omega⟩
          have : S (t0 + d + 1) = S (t0 + d) - 1 := by
            refine sumN_one n k hk ?_ (fun i hi hne => ?_)
            · rw [if_pos hin, if_pos hin, h3]
            · rw [h4 i hi hne]
          rw [show t0 + (d + 1) = t0 + d + 1 by omega, this, ih (by omega)]
          omega
        · exact absurd h5 hnone
  have hw0 := key w (Nat.le_refl w)
  have hS0 : S t0 ≤ (w : Int) := by
    refine Int.le_trans (sumN_le n (fun i hi => ?_)) hs
    by_cases hc : H i ∧ (t0 : Int) ≤ r i ∧ r i < ((t0 + w : Nat) : Int)
    · rw [if_pos hc, if_pos hc]
      have h1 := h.down hi t0 0 (by omega)
      rw [Nat.zero_add, h.init i hi] at h1
      exact h1
    · rw [if_neg hc, if_neg hc]; exact Int.le_refl _
  refine hno' (t0 + w) (by omega) (Nat.le_refl _) (fun i hi hHi hr => ?_)
  by_cases hlow : r i < (t0 : Int)
  · exact h.zero hi (hq i hi hHi hlow) (by omega) hN
  · have he := sumN_each n (f := fun i => if H i ∧ (t0 : Int) ≤ r i ∧ r i < ((t0 + w : Nat) : Int) then L (t0 + w) i else 0) (fun i hi => by
      split
      · exact h.nneg _ i hN hi
      · exact Int.le_refl _) (by show S (t0 + w) ≤ 0; omega) i hi
    have hin : H i ∧ (t0 : Int) ≤ r i ∧ r i < ((t0 + w : Nat) : Int) := ⟨hHi, by omega, hr⟩
    rw [if_pos hin] at he
    exact he

theorem last_quiet {n : Nat} {r : Nat → Int} {H : Nat → Prop} {L : Nat → Nat → Int} (h0 : ∀ i, i < n → 0 ≤ r i) : ∀ m : Nat, ∃ t0, t0 ≤ m ∧ Quiet n r H L t0 ∧ ∀ q, t0 < q → q ≤ m → ¬ Quiet n r H L q
  | 0 => ⟨0, Nat.le_refl _, fun i hi _ hr => by have := h0 i hi; omega, fun q h1 h2 => by omega⟩
  | m + 1 => by
    by_cases hq : Quiet n r H L (m + 1)
    · exact ⟨m + 1, Nat.le_refl _, hq, fun q h1 h2 => by omega⟩
    · obtain ⟨t0, h1, h2, h3⟩ := last_quiet h0 m
      refine ⟨t0, by omega, h2, fun q g1 g2 => ?_⟩
      by_cases e : q = m + 1
      · subst e; exact hq
      · exact h3 q g1 (by omega)

/-- Each job that goes ahead is done within w of its being there. -/
theorem Run.done {n N : Nat} {r x : Nat → Int} {H : Nat → Prop} [DecidablePred H] {L : Nat → Nat → Int} (h : Run n N r x H L) {i m w : Nat} (hi : i < n) (hH : H i) (hm : r i = (m : Int)) (hw : 1 ≤ w) (hN : m + w ≤ N)
    (hs : ∀ t0 : Nat, t0 ≤ m → sumN n (fun i => if H i ∧ (t0 : Int) ≤ r i ∧ r i < ((t0 + w : Nat) : Int) then x i else 0) ≤ (w : Int)) : L (m + w) i = 0 := by
  obtain ⟨t0, h1, h2, h3⟩ := last_quiet (H := H) (L := L) h.r0 m
  obtain ⟨q, g1, g2, g3⟩ := h.busy h2 hw (by omega) (hs t0 h1)
  have hqm : m < q := by
    apply Classical.byContradiction
    intro hc
    exact h3 q g1 (by omega) g3
  exact h.zero hi (g3 i hi hH (by omega)) (by omega) hN

/- How many of one task come within a time. -/
theorem come_count {n : Nat} {a r x : Nat → Int} {M : Nat → Prop} [DecidablePred M] {t0 w J T C : Int} (hT : 0 < T) (hC : 0 ≤ C)
    (hM : ∀ i, i < n → M i → t0 ≤ r i ∧ r i < t0 + w ∧ a i ≤ r i ∧ r i ≤ a i + J ∧ x i ≤ C)
    (hsp : ∀ i j, i < j → j < n → M i → M j → a i + T ≤ a j) : ∀ m, m ≤ n → ∃ c : Nat, sumN m (fun i => if M i then x i else 0) ≤ (c : Int) * C ∧ (c = 0 ∧ (∀ i, i < m → ¬ M i) ∨ 1 ≤ c ∧ ∃ i, i < m ∧ M i ∧ (∀ j, i < j → j < m → ¬ M j) ∧ (t0 - J) + ((c : Int) - 1) * T ≤ a i)
  | 0, _ => ⟨0, by simp [sumN], .inl ⟨rfl, fun i hi => by omega⟩⟩
  | m + 1, hm => by
    obtain ⟨c, h1, h2⟩ := come_count hT hC hM hsp m (by omega)
    by_cases hc : M m
    · have hmm := hM m (by omega) hc
      refine ⟨c + 1, ?_, .inr ⟨by omega, m, by omega, hc, fun j g1 g2 => by omega, ?_⟩⟩
      · show sumN m _ + (if M m then x m else 0) ≤ _
        rw [if_pos hc]
        have e : ((c + 1 : Nat) : Int) * C = (c : Int) * C + C := by rw [Int.natCast_succ, Int.add_mul]; omega
        rw [e]
        omega
      · rcases h2 with ⟨rfl, -⟩ | ⟨hc1, i, hi, hMi, -, ha⟩
        · have e : (((0 + 1 : Nat) : Int) - 1) * T = 0 := by simp
          rw [e]
          omega
        · have := hsp i m hi (by omega) hMi hc
          have e : (((c + 1 : Nat) : Int) - 1) * T = ((c : Int) - 1) * T + T := by
            rw [show (((c + 1 : Nat) : Int) - 1) = ((c : Int) - 1) + 1 by omega, Int.add_mul]
            omega
          rw [e]
          omega
    · refine ⟨c, ?_, ?_⟩
      · show sumN m _ + (if M m then x m else 0) ≤ _
        rw [if_neg hc]
        omega
      · rcases h2 with ⟨h2, h3⟩ | ⟨hc1, i, hi, hMi, hl, ha⟩
        · refine .inl ⟨h2, fun i hi => ?_⟩
          by_cases e : i = m
          · subst e; exact hc
          · exact h3 i (by omega)
        · refine .inr ⟨hc1, i, by omega, hMi, fun j g1 g2 => ?_, ha⟩
          by_cases e : j = m
          · subst e; exact hc
          · exact hl j g1 (by omega)

/-- All of one task within a time: as many as come, rounded up, times C. -/
theorem come_sum {n : Nat} {a r x : Nat → Int} {M : Nat → Prop} [DecidablePred M] {t0 w J T C : Int} (hT : 0 < T) (hC : 0 ≤ C) (hJ : 0 ≤ J) (hw : 0 ≤ w)
    (hM : ∀ i, i < n → M i → t0 ≤ r i ∧ r i < t0 + w ∧ a i ≤ r i ∧ r i ≤ a i + J ∧ x i ≤ C)
    (hsp : ∀ i j, i < j → j < n → M i → M j → a i + T ≤ a j) : sumN n (fun i => if M i then x i else 0) ≤ (w + J + T - 1) / T * C ∧ (w + J ≤ T → sumN n (fun i => if M i then x i else 0) ≤ C) := by
  obtain ⟨c, h1, h2⟩ := come_count hT hC hM hsp n (Nat.le_refl n)
  have hcT : ((c : Int) - 1) * T < w + J ∨ c = 0 := by
    rcases h2 with ⟨h2, -⟩ | ⟨hc1, i, hi, hMi, -, ha⟩
    · exact .inr h2
    · have := hM i hi hMi
      exact .inl (by omega)
  constructor
  · refine Int.le_trans h1 (Int.mul_le_mul_of_nonneg_right ?_ hC)
    rcases hcT with hcT | rfl
    · rw [Int.le_ediv_iff_mul_le hT]
      have e : ((c : Int) - 1) * T = (c : Int) * T - T := by rw [Int.sub_mul]; omega
      omega
    · exact Int.ediv_nonneg (by omega) (by omega)
  · intro hwJ
    have hc1 : (c : Int) ≤ 1 := by
      rcases hcT with hcT | rfl
      · apply Classical.byContradiction
        intro hgt
        have : 1 * T ≤ ((c : Int) - 1) * T := Int.mul_le_mul_of_nonneg_right (by omega) (by omega)
        omega
      · omega
    have : (c : Int) * C ≤ 1 * C := Int.mul_le_mul_of_nonneg_right hc1 hC
    omega

/-- All tasks together. -/
theorem all_sum {n m : Nat} {a r x : Nat → Int} {kt : Nat → Nat} {Hk : Nat → Prop} [DecidablePred Hk] {J T C : Nat → Int} {k0 t0 w : Nat}
    (hk : ∀ i, i < n → kt i < m) (hk0 : k0 < m) (hw : 1 ≤ w) (hpos : ∀ k, k < m → 0 < T k ∧ 0 ≤ C k ∧ 0 ≤ J k)
    (hx : ∀ i, i < n → a i ≤ r i ∧ r i ≤ a i + J (kt i) ∧ x i ≤ C (kt i))
    (hsp : ∀ i j, i < j → j < n → kt i = kt j → a i + T (kt i) ≤ a j) (hown : (w : Int) + J k0 ≤ T k0) :
    sumN n (fun i => if Hk (kt i) ∧ (t0 : Int) ≤ r i ∧ r i < ((t0 + w : Nat) : Int) then x i else 0) ≤ C k0 + sumN m (fun k => if k ≠ k0 ∧ Hk k then ((w : Int) + J k + T k - 1) / T k * C k else 0) := by
  have e1 : sumN n (fun i => if Hk (kt i) ∧ (t0 : Int) ≤ r i ∧ r i < ((t0 + w : Nat) : Int) then x i else 0) = sumN n (fun i => sumN m (fun k => if Hk k then (if kt i = k ∧ (t0 : Int) ≤ r i ∧ r i < ((t0 + w : Nat) : Int) then x i else 0) else 0)) := by
    refine sumN_eq n (fun i hi => ?_)
    rw [← sumN_pick m (kt i) (if Hk (kt i) ∧ (t0 : Int) ≤ r i ∧ r i < ((t0 + w : Nat) : Int) then x i else 0) (hk i hi)]
    refine sumN_eq m (fun k _ => ?_)
    by_cases e : k = kt i
    · subst e
      rw [if_pos rfl]
      by_cases h1 : Hk (kt i)
      · simp [h1]
      · simp [h1]
    · rw [if_neg e]
      have : ¬ kt i = k := fun h => e h.symm
      simp [this]
  rw [e1, sumN_swap]
  have e2 : C k0 + sumN m (fun k => if k ≠ k0 ∧ Hk k then ((w : Int) + J k + T k - 1) / T k * C k else 0) = sumN m (fun k => (if k = k0 then C k0 else 0) + (if k ≠ k0 ∧ Hk k then ((w : Int) + J k + T k - 1) / T k * C k else 0)) := by
    rw [sumN_add, sumN_pick m k0 (C k0) hk0]
  rw [e2]
  refine sumN_le m (fun k hkm => ?_)
  obtain ⟨hT, hC, hJ⟩ := hpos k hkm
  have hc := come_sum (n := n) (a := a) (r := r) (x := x) (M := fun i => kt i = k ∧ (t0 : Int) ≤ r i ∧ r i < ((t0 + w : Nat) : Int)) (t0 := t0) (w := w) hT hC hJ (by omega) (fun i hi hMi => by
    obtain ⟨rfl, g1, g2⟩ := hMi
    obtain ⟨b1, b2, b3⟩ := hx i hi
    exact ⟨g1, by omega, b1, b2, b3⟩) (fun i j hij hj hMi hMj => by
    obtain ⟨rfl, -⟩ := hMi
    exact hsp i j hij hj hMj.1.symm)
  have hup : 0 ≤ ((w : Int) + J k + T k - 1) / T k * C k := Int.mul_nonneg (Int.ediv_nonneg (by omega) (by omega)) hC
  show sumN n (fun i => if Hk k then _ else 0) ≤ _
  by_cases hHk : Hk k
  · have e3 : sumN n (fun i => if Hk k then (if kt i = k ∧ (t0 : Int) ≤ r i ∧ r i < ((t0 + w : Nat) : Int) then x i else 0) else 0) = sumN n (fun i => if kt i = k ∧ (t0 : Int) ≤ r i ∧ r i < ((t0 + w : Nat) : Int) then x i else 0) := sumN_eq n (fun i _ => if_pos hHk)
    rw [e3]
    by_cases e : k = k0
    · subst e
      have := hc.2 hown
      simp
      exact this
    · rw [if_neg e, if_pos ⟨e, hHk⟩]
      have := hc.1
      omega
  · have e3 : sumN n (fun i => if Hk k then (if kt i = k ∧ (t0 : Int) ≤ r i ∧ r i < ((t0 + w : Nat) : Int) then x i else 0) else 0) = 0 := by
      rw [sumN_eq n (g := fun _ => 0) (fun i _ => if_neg hHk)]
      clear e1 e2 hc hsp hx hk
      induction n with
      | zero => rfl
      | succ n ih => unfold sumN; rw [ih]; rfl
    rw [e3]
    have : 0 ≤ C k0 := (hpos k0 hk0).2.1
    by_cases e : k = k0
    · rw [if_pos e, if_neg (by simp [e])]; omega
    · rw [if_neg e, if_neg (by simp [hHk])]; omega
end Go.Proofs.Ytekbkcgpjkecbal.FK
namespace Go.Proofs.Ytekbkcgpjkecbal.RK
open FK

/- Jobs that are played where faults undo work: a fault costs loss at most. -/
structure Run (fa : Nat → Bool) (loss : Int) (n N : Nat) (r x : Nat → Int) (H : Nat → Prop) (L : Nat → Nat → Int) : Prop where
  r0 : ∀ i, i < n → 0 ≤ r i
  init : ∀ i, i < n → L 0 i = x i
  nneg : ∀ t i, t ≤ N → i < n → 0 ≤ L t i
  step : ∀ t, t < N → ((∀ i, i < n → L (t + 1) i = L t i) ∧ ∀ i, i < n → H i → r i ≤ t → L t i = 0) ∨
    ∃ k, k < n ∧ r k ≤ t ∧ 0 < L t k ∧ (∀ i, i < n → i ≠ k → L (t + 1) i = L t i) ∧ ((H k ∧ L (t + 1) k ≤ L t k - 1 + if fa t then loss else 0) ∨ ∀ i, i < n → H i → r i ≤ t → L t i = 0)

/-- How many of w ticks from t0 on have a fault. -/
def opN (op : Nat → Bool) (t0 : Nat) : Nat → Int
  | 0 => 0
  | w + 1 => opN op t0 w + (if op (t0 + w) then 1 else 0)

theorem sumN_to : ∀ (n : Nat) {f g : Nat → Int} (k : Nat) (v : Int), k < n → g k ≤ f k + v → (∀ i, i < n → i ≠ k → g i = f i) → sumN n g ≤ sumN n f + v
  | 0, _, _, k, _, hk, _, _ => by omega
  | n + 1, f, g, k, v, hk, h1, h2 => by
    unfold sumN
    by_cases e : k = n
    · subst e
      rw [sumN_eq k (f := g) (g := f) (fun i hi => h2 i (by omega) (by omega))]
      omega
    · have := sumN_to n k v (by omega) h1 (fun i hi hn => h2 i (by omega) hn)
      rw [h2 n (by omega) (by omega)]
      omega

theorem Run.zero1 {fa : Nat → Bool} {loss : Int} {n N : Nat} {r x : Nat → Int} {H : Nat → Prop} {L : Nat → Nat → Int} (h : Run fa loss n N r x H L) {i t : Nat} (hi : i < n) (hz : L t i = 0) (ht : t < N) : L (t + 1) i = 0 := by
  rcases h.step t ht with ⟨h2, -⟩ | ⟨k, hk, -, hp, h4, -⟩
  · rw [h2 i hi]; exact hz
  · by_cases e : i = k
    · subst e; omega
    · rw [h4 i hi e]; exact hz

theorem Run.zero {fa : Nat → Bool} {loss : Int} {n N : Nat} {r x : Nat → Int} {H : Nat → Prop} {L : Nat → Nat → Int} (h : Run fa loss n N r x H L) {i t : Nat} (hi : i < n) (hz : L t i = 0) : ∀ d, t + d ≤ N → L (t + d) i = 0
  | 0, _ => hz
  | d + 1, hd => h.zero1 hi (h.zero hi hz d (by omega)) (show t + d < N by omega)

theorem Run.zeroTo {fa : Nat → Bool} {loss : Int} {n N : Nat} {r x : Nat → Int} {H : Nat → Prop} {L : Nat → Nat → Int} (h : Run fa loss n N r x H L) {i t u : Nat} (hi : i < n) (hz : L t i = 0) (htu : t ≤ u) (hu : u ≤ N) : L u i = 0 := by
  have := h.zero hi hz (u - t) (by omega)
  rwa [show t + (u - t) = u by omega] at this

/-- Ahead of its time nothing is done. -/
theorem Run.fresh {fa : Nat → Bool} {loss : Int} {n N : Nat} {r x : Nat → Int} {H : Nat → Prop} {L : Nat → Nat → Int} (h : Run fa loss n N r x H L) {i : Nat} (hi : i < n) : ∀ t : Nat, t ≤ N → (t : Int) ≤ r i → L t i = x i
  | 0, _, _ => h.init i hi
  | t + 1, ht, hr => by
    have ih := h.fresh hi t (by omega) (by omega)
    rcases h.step t (by omega) with ⟨h2, -⟩ | ⟨k, hk, hk2, hp, h4, -⟩
    · rw [h2 i hi]; exact ih
    · by_cases e : i = k
      · subst e; omega
      · rw [h4 i hi e]; exact ih

theorem Run.busy {fa : Nat → Bool} {loss : Int} {n N : Nat} {r x : Nat → Int} {H : Nat → Prop} [DecidablePred H] {L : Nat → Nat → Int} (h : Run fa loss n N r x H L) {t0 w : Nat} (hq : Quiet n r H L t0) (hw : 1 ≤ w) (hN : t0 + w ≤ N)
    (hs : sumN n (fun i => if H i ∧ (t0 : Int) ≤ r i ∧ r i < ((t0 + w : Nat) : Int) then x i else 0) + opN fa t0 w * loss ≤ (w : Int)) : ∃ q, t0 < q ∧ q ≤ t0 + w ∧ Quiet n r H L q := by
  apply Classical.byContradiction
  intro hno
  have hno' : ∀ q, t0 < q → q ≤ t0 + w → ¬ Quiet n r H L q := fun q h1 h2 h3 => hno ⟨q, h1, h2, h3⟩
  let S : Nat → Int := fun t => sumN n (fun i => if H i ∧ (t0 : Int) ≤ r i ∧ r i < ((t0 + w : Nat) : Int) then L t i else 0)
  have key : ∀ d : Nat, d ≤ w → S (t0 + d) ≤ S t0 - (d : Int) + opN fa t0 d * loss := by
    intro d
    induction d with
    | zero => intro _; show S t0 ≤ S t0 - ((0 : Nat) : Int) + 0 * loss; simp
    | succ d ih =>
      intro hd
      have hbad := hno' (t0 + d + 1) (by omega) (by omega)
      have hnone : ¬ ∀ i, i < n → H i → r i ≤ ((t0 + d : Nat) : Int) → L (t0 + d) i = 0 := fun hall => hbad fun i hi hHi hr => by
        have hz := hall i hi hHi (by omega)
        exact h.zero1 hi hz (by omega)
      have ih' := ih (by omega)
      rw [show t0 + (d + 1) = t0 + d + 1 by omega, opN]
      rcases h.step (t0 + d) (by omega) with ⟨-, h2⟩ | ⟨k, hk, hrk, hpos, h4, h5⟩
      · exact absurd h2 hnone
      · rcases h5 with ⟨h5, h3⟩ | h5
        · have hlow : (t0 : Int) ≤ r k := by
            apply Classical.byContradiction
            intro hc
            have hz := hq k hk h5 (by omega)
            have := h.zeroTo hk hz (Nat.le_add_right t0 d) (by omega)
            omega
          have hin : H k ∧ (t0 : Int) ≤ r k ∧ r k < ((t0 + w : Nat) : Int) := ⟨h5, hlow, by omega⟩
          have : S (t0 + d + 1) ≤ S (t0 + d) + ((if fa (t0 + d) then loss else 0) - 1) := by
            refine sumN_to n k _ hk ?_ (fun i hi hne => ?_)
            · rw [if_pos hin, if_pos hin]; omega
            · rw [h4 i hi hne]
          rw [Int.add_mul]
          split at this
          · rename_i hf
            rw [if_pos hf]; omega
          · rename_i hf
            rw [if_neg hf]; omega
        · exact absurd h5 hnone
  have hw0 := key w (Nat.le_refl w)
  have hS0 : S t0 ≤ sumN n (fun i => if H i ∧ (t0 : Int) ≤ r i ∧ r i < ((t0 + w : Nat) : Int) then x i else 0) := by
    refine sumN_le n (fun i hi => ?_)
    by_cases hc : H i ∧ (t0 : Int) ≤ r i ∧ r i < ((t0 + w : Nat) : Int)
    · rw [if_pos hc, if_pos hc, h.fresh hi t0 (by omega) hc.2.1]; exact Int.le_refl _
    · rw [if_neg hc, if_neg hc]; exact Int.le_refl _
  refine hno' (t0 + w) (by omega) (Nat.le_refl _) (fun i hi hHi hr => ?_)
  by_cases hlow : r i < (t0 : Int)
  · exact h.zeroTo hi (hq i hi hHi hlow) (by omega) hN
  · have he := sumN_each n (f := fun i => if H i ∧ (t0 : Int) ≤ r i ∧ r i < ((t0 + w : Nat) : Int) then L (t0 + w) i else 0) (fun i hi => by
      split
      · exact h.nneg _ i hN hi
      · exact Int.le_refl _) (by show S (t0 + w) ≤ 0; omega) i hi
    have hin : H i ∧ (t0 : Int) ≤ r i ∧ r i < ((t0 + w : Nat) : Int) := ⟨hHi, by omega, hr⟩
    rw [if_pos hin] at he
    exact he

/-- Each job that goes ahead is done within w of its being there. -/
theorem Run.done {fa : Nat → Bool} {loss : Int} {n N : Nat} {r x : Nat → Int} {H : Nat → Prop} [DecidablePred H] {L : Nat → Nat → Int} (h : Run fa loss n N r x H L) {i m w : Nat} (hi : i < n) (hH : H i) (hm : r i = (m : Int)) (hw : 1 ≤ w) (hN : m + w ≤ N)
    (hs : ∀ t0 : Nat, t0 ≤ m → sumN n (fun i => if H i ∧ (t0 : Int) ≤ r i ∧ r i < ((t0 + w : Nat) : Int) then x i else 0) + opN fa t0 w * loss ≤ (w : Int)) : L (m + w) i = 0 := by
  obtain ⟨t0, h1, h2, h3⟩ := last_quiet (H := H) (L := L) h.r0 m
  obtain ⟨q, g1, g2, g3⟩ := h.busy h2 hw (by omega) (hs t0 h1)
  have hqm : m < q := by
    apply Classical.byContradiction
    intro hc
    exact h3 q g1 (by omega) g3
  exact h.zeroTo hi (g3 i hi hH (by omega)) (by omega) hN

/-- Faults that lie gap apart: so many in w ticks. -/
theorem few_faults {fa : Nat → Bool} {gap : Int} (hg : 1 ≤ gap) (hf : ∀ t u : Nat, t < u → fa t = true → fa u = true → (t : Int) + gap ≤ u) (t0 : Nat) : ∀ w : Nat, opN fa t0 w = 0 ∨ (1 ≤ opN fa t0 w ∧ ∃ u, u < w ∧ fa (t0 + u) = true ∧ (opN fa t0 w - 1) * gap ≤ u)
  | 0 => .inl rfl
  | w + 1 => by
    have ih := few_faults hg hf t0 w
    rw [opN]
    by_cases hc : fa (t0 + w) = true
    · rw [if_pos hc]
      rcases ih with h0 | ⟨h1, u, hu, hfu, hm⟩
      · rw [h0]
        exact .inr ⟨by omega, w, by omega, hc, by simp⟩
      · refine .inr ⟨by omega, w, by omega, hc, ?_⟩
        have := hf (t0 + u) (t0 + w) (by omega) hfu hc
        have e : (opN fa t0 w + 1 - 1) * gap = (opN fa t0 w - 1) * gap + gap := by
          rw [show opN fa t0 w + 1 - 1 = (opN fa t0 w - 1) + 1 by omega, Int.add_mul]; omega
        rw [e]; omega
    · rw [if_neg hc, Int.add_zero]
      rcases ih with h0 | ⟨h1, u, hu, hfu, hm⟩
      · exact .inl h0
      · exact .inr ⟨h1, u, by omega, hfu, hm⟩

theorem faults_le {fa : Nat → Bool} {gap : Int} (hg : 1 ≤ gap) (hf : ∀ t u : Nat, t < u → fa t = true → fa u = true → (t : Int) + gap ≤ u) (t0 w : Nat) : opN fa t0 w ≤ ((w : Int) + gap - 1) / gap := by
  rcases few_faults hg hf t0 w with h | ⟨h1, u, hu, -, hm⟩
  · rw [h]; exact Int.ediv_nonneg (by omega) (by omega)
  · rw [Int.le_ediv_iff_mul_le (by omega)]
    have e : (opN fa t0 w - 1) * gap = opN fa t0 w * gap - gap := by rw [Int.sub_mul]; omega
    omega
end Go.Proofs.Ytekbkcgpjkecbal.RK

namespace Go.Proofs.Ytekbkcgpjkecbal.S8
open Go.ChangeShapes Go.WideShapes Go.ChangeAt Go.RowKit

/- Playing jobs where faults undo work. u: what each has done since its last checkpoint. -/
structure StR where
  s : St
  u : List Int

def StR.after (q : StR) (sp : Int) (fa : Bool) (t : Nat) (b : Int) : StR :=
  if b < 0 then ⟨q.s.after t (-1), q.u⟩
  else if fa = true then ⟨⟨q.s.left.set b.toNat (L q.s.left b.toNat + L q.u b.toNat), q.s.ends, q.s.runs ++ [b]⟩, q.u.set b.toNat 0⟩
  else ⟨q.s.after t b, if L q.s.left b.toNat - 1 = 0 then q.u else q.u.set b.toNat (if L q.u b.toNat + 1 = sp then 0 else L q.u b.toNat + 1)⟩

def StR.init (l : List Jb) : StR := ⟨St.init l, List.replicate l.length 0⟩

def PlaysR (l : List Jb) (sp : Int) (fa : Nat → Bool) : Nat → StR → Prop
  | 0, q => q = StR.init l
  | t + 1, q => ∃ q0 b, PlaysR l sp fa t q0 ∧ IsBest l 1 q0.s.left (t : Int) b ∧ q = q0.after sp (fa t) t b

theorem playsR_unique {l : List Jb} {sp : Int} {fa : Nat → Bool} : ∀ (t : Nat) (s s' : StR), PlaysR l sp fa t s → PlaysR l sp fa t s' → s = s'
  | 0, s, s', h, h' => by rw [show s = _ from h, show s' = _ from h']
  | t + 1, s, s', ⟨s0, b, h1, h2, h3⟩, ⟨s1, b', g1, g2, g3⟩ => by
    have e := playsR_unique t s0 s1 h1 g1
    subst e
    have e2 := isBest_unique h2 g2
    subst e2
    rw [h3, g3]

structure OkR (l : List Jb) (sp : Int) (t : Nat) (q : StR) : Prop where
  ok : Ok l t q.s
  ul : q.u.length = l.length
  u0 : ∀ i, 0 ≤ L q.u i
  sum : ∀ i, i < l.length → L q.s.left i + L q.u i ≤ (J l i).c
  st : 1 ≤ sp → ∀ i, L q.u i ≤ sp - 1

theorem afterR_none {q : StR} {sp : Int} {fa : Bool} {t : Nat} : q.after sp fa t (-1) = ⟨⟨q.s.left, q.s.ends, q.s.runs ++ [-1]⟩, q.u⟩ := rfl

theorem afterR_fault {q : StR} {sp : Int} {t i : Nat} : q.after sp true t (i : Int) = ⟨⟨q.s.left.set i (L q.s.left i + L q.u i), q.s.ends, q.s.runs ++ [(i : Int)]⟩, q.u.set i 0⟩ := by
  unfold StR.after
  rw [if_neg (by omega), if_pos rfl, Int.toNat_natCast]

theorem afterR_work {q : StR} {sp : Int} {t i : Nat} : q.after sp false t (i : Int) = ⟨⟨q.s.left.set i (L q.s.left i - 1), if L q.s.left i - 1 = 0 then q.s.ends.set i ((t : Int) + 1) else q.s.ends, q.s.runs ++ [(i : Int)]⟩, if L q.s.left i - 1 = 0 then q.u else q.u.set i (if L q.u i + 1 = sp then 0 else L q.u i + 1)⟩ := by
  unfold StR.after St.after
  rw [if_neg (by omega), if_neg (by simp), if_neg (by omega), Int.toNat_natCast]

theorem J_okJ {l : List Jb} (hl : ∀ x ∈ l, okJ x) {i : Nat} (hi : i < l.length) : okJ (J l i) ∧ l[i]? = some (J l i) := by
  have e : l[i]? = some (J l i) := by unfold J; rw [List.getD_eq_getElem?_getD]; simp [hi]
  exact ⟨hl _ (List.mem_of_getElem? e), e⟩

theorem okR_init {l : List Jb} {sp : Int} (hl : ∀ x ∈ l, okJ x) : OkR l sp 0 (StR.init l) := by
  have hz : ∀ i, L (List.replicate l.length (0 : Int)) i = 0 := fun i => by
    unfold L
    rw [List.getD_eq_getElem?_getD, List.getElem?_replicate]
    split <;> rfl
  refine ⟨ok_init hl, by simp [StR.init], fun i => ?_, fun i hi => ?_, fun h i => ?_⟩
  · show 0 ≤ L (List.replicate l.length (0 : Int)) i
    rw [hz]; exact Int.le_refl _
  · show L (l.map (·.c)) i + L (List.replicate l.length (0 : Int)) i ≤ _
    rw [hz]
    unfold L
    rw [List.getD_eq_getElem?_getD, List.getElem?_map, (J_okJ hl hi).2]
    simp
  · show L (List.replicate l.length (0 : Int)) i ≤ _
    rw [hz]; omega

theorem okR_after {l : List Jb} {sp : Int} {fa : Bool} {t : Nat} {q : StR} {b : Int} (hl : ∀ x ∈ l, okJ x) (h : OkR l sp t q) (hb : IsBest l 1 q.s.left (t : Int) b) : OkR l sp (t + 1) (q.after sp fa t b) := by
  have hp : Pick l 1 true t q.s b := .inr ⟨(fun e => by cases e.1), hb⟩
  have ho := ok_after h.ok hp
  rcases hb with ⟨rfl, -⟩ | ⟨i, rfl, hi, -, hpos, -⟩
  · rw [afterR_none]
    exact ⟨ho, h.ul, h.u0, h.sum, h.st⟩
  · have hil : i < q.s.left.length := by rw [h.ok.left]; exact hi
    have hiu : i < q.u.length := by rw [h.ul]; exact hi
    have hs := h.sum i hi
    have hc := (J_okJ hl hi).1
    have hc2 : (J l i).c ≤ 10000 := hc.2.2.2.1
    have hu := h.u0 i
    cases fa with
    | true =>
      rw [afterR_fault]
      refine ⟨⟨by simp [h.ok.left], h.ok.ends, by simp [h.ok.runs], fun j => ?_, fun j => ?_, fun r hr => ?_⟩, by simp [h.ul], fun j => ?_, fun j hj => ?_, fun hsp j => ?_⟩
      · dsimp only; rw [L_set hil]; split
        · omega
        · exact h.ok.nneg j
      · dsimp only; rw [L_set hil]; split
        · omega
        · exact h.ok.small j
      · rcases List.mem_append.1 hr with hr | hr
        · exact h.ok.rng r hr
        · simp at hr; exact .inr ⟨by omega, by omega⟩
      · dsimp only; rw [L_set hiu]; split
        · exact Int.le_refl _
        · exact h.u0 j
      · dsimp only; rw [L_set hil, L_set hiu]
        by_cases e : j = i
        · subst e; rw [if_pos rfl, if_pos rfl]; omega
        · rw [if_neg e, if_neg e]; exact h.sum j hj
      · dsimp only; rw [L_set hiu]; split
        · omega
        · exact h.st hsp j
    | false =>
      have e0 : q.s.after t (i : Int) = ⟨q.s.left.set i (L q.s.left i - 1), if L q.s.left i - 1 = 0 then q.s.ends.set i ((t : Int) + 1) else q.s.ends, q.s.runs ++ [(i : Int)]⟩ := by
        unfold St.after
        rw [if_neg (by omega), Int.toNat_natCast]
      rw [e0] at ho
      rw [afterR_work]
      have key : ∀ U : List Int, (U = q.u ∨ ∃ v, 0 ≤ v ∧ v ≤ L q.u i + 1 ∧ (1 ≤ sp → v ≤ sp - 1) ∧ U = q.u.set i v) → (U.length = l.length) ∧ (∀ i, 0 ≤ L U i) ∧ (∀ j, j < l.length → L (q.s.left.set i (L q.s.left i - 1)) j + L U j ≤ (J l j).c) ∧ (1 ≤ sp → ∀ i, L U i ≤ sp - 1) := by
        rintro U (rfl | ⟨v, v0, v1, v2, rfl⟩)
        · refine ⟨h.ul, h.u0, fun j hj => ?_, h.st⟩
          rw [L_set hil]
          by_cases e : j = i
          · subst e; rw [if_pos rfl]; omega
          · rw [if_neg e]; exact h.sum j hj
        · refine ⟨by simp [h.ul], fun j => ?_, fun j hj => ?_, fun hsp j => ?_⟩
          · rw [L_set hiu]; split
            · exact v0
            · exact h.u0 j
          · rw [L_set hil, L_set hiu]
            by_cases e : j = i
            · subst e; rw [if_pos rfl, if_pos rfl]; omega
            · rw [if_neg e, if_neg e]; exact h.sum j hj
          · rw [L_set hiu]; split
            · exact v2 hsp
            · exact h.st hsp j
      obtain ⟨k1, k2, k3, k4⟩ := key (if L q.s.left i - 1 = 0 then q.u else q.u.set i (if L q.u i + 1 = sp then 0 else L q.u i + 1)) (by
        split
        · exact .inl rfl
        · refine .inr ⟨_, ?_, ?_, ?_, rfl⟩
          · split <;> omega
          · split <;> omega
          · intro hsp
            have := h.st hsp i
            split <;> omega)
      exact ⟨ho, k1, k2, k3, k4⟩

theorem playsR_ok {l : List Jb} {sp : Int} {fa : Nat → Bool} (hl : ∀ x ∈ l, okJ x) : ∀ (t : Nat) (s : StR), PlaysR l sp fa t s → OkR l sp t s
  | 0, s, h => by rw [show s = _ from h]; exact okR_init hl
  | t + 1, s, ⟨s0, b, h1, h2, h3⟩ => by rw [h3]; exact okR_after hl (playsR_ok hl t s0 h1) h2
end Go.Proofs.Ytekbkcgpjkecbal.S8
namespace Go.Proofs.Ytekbkcgpjkecbal
open Go.ChangeShapes Go.WideShapes Go.ChangeAt Go.RowKit

theorem plays_seqR {l : List Jb} {sp : Int} {fa : Nat → Bool} : ∀ (t : Nat) (s : S8.StR), S8.PlaysR l sp fa t s → ∃ f : Nat → S8.StR, f t = s ∧ (∀ u, u ≤ t → S8.PlaysR l sp fa u (f u)) ∧ ∀ u, u < t → ∃ b, S8.IsBest l 1 (f u).s.left (u : Int) b ∧ f (u + 1) = (f u).after sp (fa u) u b
  | 0, s, h => ⟨fun _ => s, rfl, fun u hu => by rw [show u = 0 by omega]; exact h, fun u hu => by omega⟩
  | t + 1, s, h => by
    obtain ⟨s0, b, h1, h2, h3⟩ := id h
    obtain ⟨f, e, hp, hs⟩ := plays_seqR t s0 h1
    refine ⟨fun u => if u ≤ t then f u else s, by dsimp only; rw [if_neg (by omega)], fun u hu => ?_, fun u hu => ?_⟩
    · dsimp only
      by_cases hc : u ≤ t
      · rw [if_pos hc]; exact hp u hc
      · rw [if_neg hc, show u = t + 1 by omega]; exact h
    · dsimp only
      by_cases hc : u + 1 ≤ t
      · rw [if_pos hc, if_pos (show u ≤ t by omega)]
        exact hs u (by omega)
      · have hu' : u = t := by omega
        subst hu'
        rw [if_neg hc, if_pos (Nat.le_refl u), e]
        exact ⟨b, h2, h3⟩

theorem run_ofR {js : List Jb} {sp : Int} {fa : Nat → Bool} {N : Nat} {f : Nat → S8.StR} (hok : ∀ x ∈ js, S8.okJ x) (hp : ∀ u, u ≤ N → S8.PlaysR js sp fa u (f u)) (hs : ∀ u, u < N → ∃ b, S8.IsBest js 1 (f u).s.left (u : Int) b ∧ f (u + 1) = (f u).after sp (fa u) u b) (P0 loss : Int)
    (hloss : ∀ i, i < js.length → P0 ≤ (S8.J js i).p → (S8.J js i).c ≤ loss ∨ (1 ≤ sp ∧ sp ≤ loss)) :
    RK.Run fa loss js.length N (fun i => (S8.J js i).a) (fun i => (S8.J js i).c) (fun i => P0 ≤ (S8.J js i).p) (fun t i => S8.L (f t).s.left i) := by
  have hO : ∀ u, u ≤ N → S8.OkR js sp u (f u) := fun u hu => S8.playsR_ok hok u _ (hp u hu)
  refine ⟨fun i hi => (S8.J_okJ hok hi).1.1, fun i hi => ?_, fun t i ht hi => (hO t ht).ok.nneg i, fun t ht => ?_⟩
  · have h0 : f 0 = S8.StR.init js := hp 0 (Nat.zero_le _)
    show S8.L (f 0).s.left i = _
    rw [h0]
    unfold S8.L S8.StR.init S8.St.init
    dsimp only
    rw [List.getD_eq_getElem?_getD, List.getElem?_map, (S8.J_okJ hok hi).2]
    rfl
  · obtain ⟨b, hb, he⟩ := hs t ht
    have hO0 := hO t (by omega)
    have hn := hO0.ok.nneg
    have hl := hO0.ok.left
    rcases hb with ⟨rfl, hb⟩ | ⟨k, rfl, hk, h1, h2, h3⟩
    · refine .inl ⟨fun i hi => ?_, fun i hi _ hr => ?_⟩
      · show S8.L (f (t + 1)).s.left i = _
        rw [he]; rfl
      · have := hb i hi
        have := hn i
        show S8.L (f t).s.left i = 0
        omega
    · obtain ⟨v, hv, hv2⟩ : ∃ v, (f (t + 1)).s.left = (f t).s.left.set k v ∧ (P0 ≤ (S8.J js k).p → v ≤ S8.L (f t).s.left k - 1 + if fa t then loss else 0) := by
        rw [he]
        cases hf : fa t with
        | true =>
          rw [S8.afterR_fault]
          refine ⟨_, rfl, fun hP => ?_⟩
          have a1 := hO0.sum k hk
          have a2 := hloss k hk hP
          have a3 := hO0.st
          rw [if_pos rfl]
          rcases a2 with a2 | ⟨a2, a4⟩
          · omega
          · have := a3 a2 k; omega
        | false =>
          rw [S8.afterR_work]
          refine ⟨_, rfl, fun hP => ?_⟩
          simp
      have hL : ∀ j, S8.L (f (t + 1)).s.left j = if j = k then v else S8.L (f t).s.left j := fun j => by
        rw [hv]
        exact S8.L_set (by rw [hl]; exact hk)
      refine .inr ⟨k, hk, h1, h2, fun i hi hne => ?_, ?_⟩
      · show S8.L (f (t + 1)).s.left i = _
        rw [hL, if_neg hne]
      · by_cases hH : P0 ≤ (S8.J js k).p
        · refine .inl ⟨hH, ?_⟩
          show S8.L (f (t + 1)).s.left k ≤ _
          rw [hL, if_pos rfl]
          exact hv2 hH
        · refine .inr fun i hi hHi hr => ?_
          apply Classical.byContradiction
          intro hne
          have hpos : 0 < S8.L (f t).s.left i := by have := hn i; have : ¬ S8.L (f t).s.left i = 0 := hne; omega
          have hik : i ≠ k := fun e => by subst e; exact hH hHi
          have := h3 i hi hr hpos hik
          unfold S8.lexJ S8.lex S8.key at this
          simp only [if_true] at this
          have hHi' : P0 ≤ (S8.J js i).p := hHi
          omega

theorem zero_backR {js : List Jb} {sp : Int} {fa : Nat → Bool} {N : Nat} {f : Nat → S8.StR} (hs : ∀ u, u < N → ∃ b, S8.IsBest js 1 (f u).s.left (u : Int) b ∧ f (u + 1) = (f u).after sp (fa u) u b) (hO : ∀ u, u ≤ N → S8.OkR js sp u (f u)) {i : Nat} {t : Nat} (hz : S8.L (f t).s.left i = 0) : ∀ d, t + d ≤ N → S8.L (f (t + d)).s.left i = 0
  | 0, _ => hz
  | d + 1, hd => by
    have ih := zero_backR hs hO hz d (by omega)
    obtain ⟨b, hb, he⟩ := hs (t + d) (by omega)
    rw [show t + (d + 1) = t + d + 1 by omega, he]
    rcases hb with ⟨rfl, hb⟩ | ⟨k, rfl, hk, h1, h2, h3⟩
    · exact ih
    · have hne : i ≠ k := fun e => by subst e; omega
      have hl : k < (f (t + d)).s.left.length := by rw [(hO (t + d) (by omega)).ok.left]; exact hk
      cases hf : fa (t + d) with
      | true => rw [S8.afterR_fault]; dsimp only; rw [S8.L_set hl, if_neg hne]; exact ih
      | false => rw [S8.afterR_work]; dsimp only; rw [S8.L_set hl, if_neg hne]; exact ih

theorem ends_ofR {js : List Jb} {sp : Int} {fa : Nat → Bool} {N : Nat} {f : Nat → S8.StR} (hok : ∀ x ∈ js, S8.okJ x) (hp : ∀ u, u ≤ N → S8.PlaysR js sp fa u (f u)) (hs : ∀ u, u < N → ∃ b, S8.IsBest js 1 (f u).s.left (u : Int) b ∧ f (u + 1) = (f u).after sp (fa u) u b) :
    ∀ u, u ≤ N → ∀ i, i < js.length → ∀ q, q ≤ u → S8.L (f q).s.left i = 0 → ∃ e, (f u).s.ends[i]? = some e ∧ 1 ≤ e ∧ e ≤ (q : Int) := by
  have hO : ∀ u, u ≤ N → S8.OkR js sp u (f u) := fun u hu => S8.playsR_ok hok u _ (hp u hu)
  intro u
  induction u with
  | zero =>
    intro _ i hi q hq hz
    rw [show q = 0 by omega] at hz
    have h0 : f 0 = S8.StR.init js := hp 0 (Nat.zero_le _)
    rw [h0] at hz
    unfold S8.L S8.StR.init S8.St.init at hz
    dsimp only at hz
    rw [List.getD_eq_getElem?_getD, List.getElem?_map, (S8.J_okJ hok hi).2] at hz
    have h2 := (S8.J_okJ hok hi).1.2.2.1
    have h3 : (S8.J js i).c = 0 := hz
    omega
  | succ u ih =>
    intro hu i hi q hq hz
    obtain ⟨b, hb, he⟩ := hs u (by omega)
    have hOu := hO u (by omega)
    by_cases hzu : S8.L (f u).s.left i = 0
    · have hq' : ∃ q', q' ≤ u ∧ q' ≤ q ∧ S8.L (f q').s.left i = 0 := by
        by_cases hqu : q ≤ u
        · exact ⟨q, hqu, Nat.le_refl _, hz⟩
        · exact ⟨u, Nat.le_refl _, by omega, hzu⟩
      obtain ⟨q', g1, g2, g3⟩ := hq'
      obtain ⟨e, h1, h2, h3⟩ := ih (by omega) i hi q' g1 g3
      refine ⟨e, ?_, h2, by omega⟩
      rw [he]
      rcases hb with ⟨rfl, -⟩ | ⟨k, rfl, hk, -, hpos, -⟩
      · exact h1
      · have hne : k ≠ i := fun e => by subst e; omega
        cases hf : fa u with
        | true => rw [S8.afterR_fault]; exact h1
        | false =>
          rw [S8.afterR_work]
          show (if S8.L (f u).s.left k - 1 = 0 then (f u).s.ends.set k ((u : Int) + 1) else (f u).s.ends)[i]? = some e
          split
          · rw [List.getElem?_set_ne hne]; exact h1
          · exact h1
    · have hqu : q = u + 1 := by
        apply Classical.byContradiction
        intro hne
        have := zero_backR hs hO hz (u - q) (by omega)
        rw [show q + (u - q) = u by omega] at this
        exact hzu this
      subst hqu
      rw [he] at hz ⊢
      rcases hb with ⟨rfl, -⟩ | ⟨k, rfl, hk, -, hpos, -⟩
      · exact absurd hz hzu
      · have hl : k < (f u).s.left.length := by rw [hOu.ok.left]; exact hk
        cases hf : fa u with
        | true =>
          rw [hf, S8.afterR_fault] at hz
          dsimp only at hz
          rw [S8.L_set hl] at hz
          by_cases hik : i = k
          · subst hik
            rw [if_pos rfl] at hz
            have := hOu.u0 i
            omega
          · rw [if_neg hik] at hz
            exact absurd hz hzu
        | false =>
          rw [hf, S8.afterR_work] at hz
          rw [S8.afterR_work]
          dsimp only at hz ⊢
          rw [S8.L_set hl] at hz
          by_cases hik : i = k
          · subst hik
            rw [if_pos rfl] at hz
            rw [if_pos hz]
            refine ⟨(u : Int) + 1, ?_, by omega, by omega⟩
            rw [List.getElem?_set_self (by rw [hOu.ok.ends]; exact hk)]
          · rw [if_neg hik] at hz
            exact absurd hz hzu

/- The jobs of comings, one by one. -/
theorem jobsFrom_each {l : List Ta} : ∀ (cs : List Co) (acc : List Jb) (la tk : List Int) (i : Nat) (js : List Jb), la.length = cs.length → tk.length = cs.length → jobsFrom l acc cs la tk i = ((0, 0), js) →
    ∃ new : List Jb, js = acc ++ new ∧ new.length = cs.length ∧ ∀ (n : Nat) (c : Co), cs[n]? = some c → ∃ a b : Int, new[n]? = some (⟨c.k, c.a + a, b, c.a + (l.getD c.k.toNat ta0).d, (l.getD c.k.toNat ta0).p⟩ : Jb) ∧ 0 ≤ a ∧ a ≤ (l.getD c.k.toNat ta0).j ∧ 1 ≤ b ∧ b ≤ (l.getD c.k.toNat ta0).c
  | [], acc, la, tk, i, js, h1, h2, h => by
    rw [jobsFrom_end] at h
    refine ⟨[], ?_, rfl, fun n c hc => by simp at hc⟩
    simp at h
    simp [h]
  | c0 :: cs, acc, [], tk, i, js, h1, h2, h => by simp at h1
  | c0 :: cs, acc, a :: la, [], i, js, h1, h2, h => by simp at h2
  | c0 :: cs, acc, a :: la, b :: tk, i, js, h1, h2, h => by
    rw [jobsFrom] at h
    unfold jobOne at h
    by_cases hc : a < 0 ∨ (l.getD c0.k.toNat ta0).j < a ∨ b < 1 ∨ (l.getD c0.k.toNat ta0).c < b
    · rw [if_pos hc] at h
      simp at h
    · rw [if_neg hc] at h
      obtain ⟨new, g1, g2, g3⟩ := jobsFrom_each cs _ la tk (i + 1) js (by simpa using h1) (by simpa using h2) h
      refine ⟨_ :: new, by rw [g1, List.append_assoc]; rfl, by simp [g2], fun n c hn => ?_⟩
      cases n with
      | zero =>
        simp at hn
        subst hn
        exact ⟨a, b, rfl, by omega, by omega, by omega, by omega⟩
      | succ n => simpa using g3 n c (by simpa using hn)

theorem jobsF_ok {l : List Ta} {cs : List Co} {la tk : List Int} {js : List Jb} (h : jobsF l cs la tk = ((0, 0), js)) : (legF l cs).1 = 0 ∧ js.length = cs.length ∧ ∀ (n : Nat) (c : Co), cs[n]? = some c → ∃ a b : Int, js[n]? = some (⟨c.k, c.a + a, b, c.a + (l.getD c.k.toNat ta0).d, (l.getD c.k.toNat ta0).p⟩ : Jb) ∧ 0 ≤ a ∧ a ≤ (l.getD c.k.toNat ta0).j ∧ 1 ≤ b ∧ b ≤ (l.getD c.k.toNat ta0).c := by
  unfold jobsF at h
  by_cases h0 : (legF l cs).1 ≠ 0
  · rw [if_pos h0] at h
    simp at h
    exact absurd (by rw [h.1]) h0
  · rw [if_neg h0] at h
    by_cases h1 : la.length ≠ cs.length ∨ tk.length ≠ cs.length
    · rw [if_pos h1] at h; simp at h
    · rw [if_neg h1] at h
      obtain ⟨new, g1, g2, g3⟩ := jobsFrom_each cs [] la tk 0 js (by omega) (by omega) h
      rw [List.nil_append] at g1
      subst g1
      exact ⟨by omega, g2, g3⟩

theorem soonOf_cons2 {l : List Ta} {past : List Co} {c : Co} {k : Int} : soonOf l (c :: past) k = if c.k = k then c.a + (l.getD k.toNat ta0).t else soonOf l past k := by
  unfold soonOf lastOf
  rw [List.find?_cons]
  by_cases h : c.k = k
  · simp [h]
  · simp [h]

/-- Two comings of one task are T apart. -/
theorem leg_apart {l : List Ta} (hl : ∀ x ∈ l, stands x = true) : ∀ (r past : List Co) (i : Nat), (legFrom l past r i).1 = 0 → (∀ c ∈ past, c.a + (l.getD c.k.toNat ta0).t ≤ soonOf l past c.k) →
    (∀ c0 ∈ past, ∀ c ∈ r, c0.k = c.k → c0.a + (l.getD c.k.toNat ta0).t ≤ c.a) ∧ r.Pairwise (fun c0 c => c0.k = c.k → c0.a + (l.getD c.k.toNat ta0).t ≤ c.a)
  | [], _, _, _, _ => ⟨fun _ _ c hc => by simp at hc, List.Pairwise.nil⟩
  | x :: r, past, i, h, hp => by
    rw [legFrom] at h
    by_cases hx : legOne l past x = 0
    · rw [if_pos hx] at h
      have hr := legOne_ok hx
      have hs : soonOf l past x.k ≤ x.a := by
        unfold legOne at hx
        rw [if_neg (by omega), if_neg (by omega)] at hx
        apply Classical.byContradiction
        intro hc
        rw [if_pos (by omega)] at hx
        cases hx
      have hT : 1 ≤ (l.getD x.k.toNat ta0).t := (stands_t (stands_mem hl (k := x.k.toNat) (by omega))).1
      have hp' : ∀ c ∈ x :: past, c.a + (l.getD c.k.toNat ta0).t ≤ soonOf l (x :: past) c.k := fun c hc => by
        rw [soonOf_cons2]
        rcases List.mem_cons.1 hc with rfl | hc
        · rw [if_pos rfl]; exact Int.le_refl _
        · have h1 := hp c hc
          by_cases e : x.k = c.k
          · rw [if_pos e]
            rw [← e] at h1 ⊢
            omega
          · rw [if_neg e]; exact h1
      obtain ⟨g1, g2⟩ := leg_apart hl r (x :: past) (i + 1) h hp'
      refine ⟨fun c0 h0 c hc e => ?_, List.Pairwise.cons (fun c hc e => g1 x List.mem_cons_self c hc e) g2⟩
      rcases List.mem_cons.1 hc with rfl | hc
      · have := hp c0 h0
        rw [e] at this
        omega
      · exact g1 c0 (List.mem_cons_of_mem _ h0) c hc e
    · rw [if_neg hx] at h
      exact absurd h hx

theorem apart_of {l : List Ta} {cs : List Co} (h : (legF l cs).1 = 0) : ∀ (i j : Nat) (c c' : Co), i < j → cs[i]? = some c → cs[j]? = some c' → c.k = c'.k → c.a + (l.getD c'.k.toNat ta0).t ≤ c'.a := by
  have hk := legF_ok h
  have hl := (chkF_ok hk.1).2.2
  have h' : (legFrom l [] cs 0).1 = 0 := by
    unfold legF at h
    rw [if_neg (by have := hk.1; omega), if_neg (by have := hk.2.1; omega)] at h
    exact h
  have hp := (leg_apart hl cs [] 0 h' (fun c hc => by simp at hc)).2
  intro i j c c' hij hc hc' e
  rw [List.pairwise_iff_getElem] at hp
  obtain ⟨hi, rfl⟩ := List.getElem?_eq_some_iff.1 hc
  obtain ⟨hj, rfl⟩ := List.getElem?_eq_some_iff.1 hc'
  exact hp i j hi hj hij e

theorem sumO_sumN {A : Nat → Bool} {i : Nat} {w : Int} {l : List Ta} : ∀ (d k : Nat), k + d = l.length → FK.sumN l.length (fun k => if k ≠ i ∧ A k = true then up1 w (Tk l k) else 0) = FK.sumN k (fun k => if k ≠ i ∧ A k = true then up1 w (Tk l k) else 0) + sumO w (othF A i (l.drop k) k)
  | 0, k, h => by
    rw [show k = l.length by omega, List.drop_length]
    simp [othF, sumO]
  | d + 1, k, h => by
    obtain ⟨x, hx, hd⟩ := drop_at (l := l) (k := k) (by omega)
    rw [sumO_sumN d (k + 1) (by omega), othF_at hd]
    show FK.sumN k _ + (if k ≠ i ∧ A k = true then up1 w (Tk l k) else 0) + _ = _
    rw [Tk_at hx]
    by_cases hc : k ≠ i ∧ A k = true
    · rw [if_pos hc, if_pos hc, sumO]; omega
    · rw [if_neg hc, if_neg hc]; omega


/- What a fault costs, and how long it takes then. -/
def mostF (p : Int) : List Ta → Int → Int
  | [], m => m
  | x :: r, m => mostF p r (if p ≤ x.p then max m x.c else m)

def lossF (l : List Ta) (p sp : Int) : Int := if sp = 0 then mostF p l 0 else min (mostF p l 0) sp

theorem mostF_le {p : Int} : ∀ (l : List Ta) (m : Int), m ≤ mostF p l m ∧ ∀ x ∈ l, p ≤ x.p → x.c ≤ mostF p l m
  | [], m => ⟨Int.le_refl _, fun x hx => by simp at hx⟩
  | y :: r, m => by
    obtain ⟨h1, h2⟩ := mostF_le (p := p) r (if p ≤ y.p then max m y.c else m)
    rw [mostF]
    refine ⟨?_, fun x hx hp => ?_⟩
    · refine Int.le_trans ?_ h1
      split <;> omega
    · rcases List.mem_cons.1 hx with rfl | hx
      · rw [if_pos hp] at h1 ⊢; omega
      · exact h2 x hx hp

theorem mostF_range {p : Int} : ∀ (l : List Ta) (m : Int), (∀ x ∈ l, stands x = true) → 0 ≤ m → m ≤ 10000 → 0 ≤ mostF p l m ∧ mostF p l m ≤ 10000
  | [], m, _, h0, h1 => ⟨h0, h1⟩
  | y :: r, m, h, h0, h1 => by
    obtain ⟨a1, a2, a3, a4, a5, a6, a7, a8, a9, a10⟩ := stands_t (h y List.mem_cons_self)
    rw [mostF]
    exact mostF_range r _ (fun x hx => h x (List.mem_cons_of_mem _ hx)) (by split <;> omega) (by split <;> omega)

def askR (l : List Ta) (i : Nat) (gap sp : Int) (w : Int) : Int := askF (Tk l i).c (othF (aheadP l i) i l 0) w + (w + gap - 1) / gap * lossF l (Tk l i).p sp

/-- Faults: nobody takes longer than is told. -/
theorem redo_pure {l : List Ta} {cs : List Co} {la tk : List Int} {js : List Jb} {N ik : Nat} {gap sp : Int} {fa : Nat → Bool} {wn : Nat} {s : S8.StR} (hX : (chkX l).1 = 0) (hik' : ik < l.length) (hg : 1 ≤ gap) (hsp : 0 ≤ sp) (w1 : 1 ≤ wn) (w2 : (wn : Int) + (Tk l ik).j ≤ (Tk l ik).d) (w3 : askR l ik gap sp (wn : Int) = (wn : Int))
    (hfa : ∀ t u : Nat, t < u → fa t = true → fa u = true → (t : Int) + gap ≤ u) (hj : jobsF l cs la tk = ((0, 0), js))
    (hN : ∀ c ∈ cs, c.a + (Tk l c.k.toNat).d ≤ (N : Int)) (hok : ∀ x ∈ js, S8.okJ x) (hP : S8.PlaysR js sp fa N s) :
    ∀ (i : Nat) (c : Co), cs[i]? = some c → c.k = (ik : Int) → ∃ e, s.s.ends[i]? = some e ∧ 1 ≤ e ∧ e - c.a ≤ (wn : Int) + (Tk l ik).j := by
  obtain ⟨-, hDT, -, h8, hst, -⟩ := chkX_ok hX
  obtain ⟨hleg, hjl, hje⟩ := jobsF_ok hj
  have hlk := legF_ok hleg
  obtain ⟨f, rfl, hp, hs⟩ := plays_seqR N s hP
  intro i c hc hck
  have hil : i < cs.length := (List.getElem?_eq_some_iff.1 hc).1
  obtain ⟨hk0, hkl, ha0, ha1⟩ := hlk.2.2 c (List.mem_of_getElem? hc)
  have hkn : c.k.toNat < l.length := by omega
  have hik : ik = c.k.toNat := by omega
  subst hik
  -- the jobs
  have hJ : ∀ n c, cs[n]? = some c → ∃ a b : Int, S8.J js n = ⟨c.k, c.a + a, b, c.a + (Tk l c.k.toNat).d, (Tk l c.k.toNat).p⟩ ∧ 0 ≤ a ∧ a ≤ (Tk l c.k.toNat).j ∧ 1 ≤ b ∧ b ≤ (Tk l c.k.toNat).c := fun n c hn => by
    obtain ⟨a, b, g1, g2⟩ := hje n c hn
    refine ⟨a, b, ?_, g2⟩
    unfold S8.J
    rw [List.getD_eq_getElem?_getD, g1]
    rfl
  have hC : ∀ n, n < js.length → ∃ c, cs[n]? = some c ∧ cs.getD n ⟨0, 0⟩ = c := fun n hn => by
    have hn' : n < cs.length := by omega
    exact ⟨cs[n], by simp [hn'], by simp [hn']⟩
  obtain ⟨a, b, hji, a1, a2, b1, b2⟩ := hJ i c hc
  have hl0 : 0 ≤ lossF l (Tk l c.k.toNat).p sp := by
    have := (mostF_range (p := (Tk l c.k.toNat).p) l 0 hst (Int.le_refl _) (by omega)).1
    unfold lossF
    split <;> omega
  have R := run_ofR hok hp hs (Tk l c.k.toNat).p (lossF l (Tk l c.k.toNat).p sp) (fun n hn hPn => by
    obtain ⟨c', hc', -⟩ := hC n hn
    obtain ⟨a', b', e', q1, q2, q3, q4⟩ := hJ n c' hc'
    have hkk := hlk.2.2 c' (List.mem_of_getElem? hc')
    rw [e'] at hPn ⊢
    dsimp only at hPn ⊢
    have := (mostF_le (p := (Tk l c.k.toNat).p) l 0).2 _ (Tk_mem (l := l) (k := c'.k.toNat) (by omega)) hPn
    unfold lossF
    split
    · left; omega
    · by_cases hm : mostF (Tk l c.k.toNat).p l 0 ≤ sp
      · left; omega
      · right; omega)
  have hd := hN c (List.mem_of_getElem? hc)
  have hm : (S8.J js i).a = (((c.a + a).toNat : Nat) : Int) := by rw [hji]; show c.a + a = _; omega
  have hdone := R.done (i := i) (m := (c.a + a).toNat) (w := wn) (by omega) (by show (Tk l c.k.toNat).p ≤ (S8.J js i).p; rw [hji]; exact Int.le_refl _) hm (by omega) (by omega) (fun t0 _ => by
    have hall := FK.all_sum (n := js.length) (m := l.length) (a := fun n => (cs.getD n ⟨0, 0⟩).a) (r := fun n => (S8.J js n).a) (x := fun n => (S8.J js n).c) (kt := fun n => (S8.J js n).k.toNat) (Hk := fun k => (Tk l c.k.toNat).p ≤ (Tk l k).p) (J := fun k => (Tk l k).j) (T := fun k => (Tk l k).t) (C := fun k => (Tk l k).c) (k0 := c.k.toNat) (t0 := t0) (w := wn)
      (fun n hn => by
        obtain ⟨c', hc', -⟩ := hC n hn
        obtain ⟨a', b', e', -⟩ := hJ n c' hc'
        have := hlk.2.2 c' (List.mem_of_getElem? hc')
        show (S8.J js n).k.toNat < _
        rw [e']
        show c'.k.toNat < _
        omega) hkn (by omega)
      (fun k hk => by
        obtain ⟨g1, g2, g3, g4, g5, g6, g7, g8, -, -⟩ := stands_t (stands_mem hst hk)
        exact ⟨by show 0 < (Tk l k).t; omega, by show 0 ≤ (Tk l k).c; omega, g7⟩)
      (fun n hn => by
        obtain ⟨c', hc', hg⟩ := hC n hn
        obtain ⟨a', b', e', q1, q2, q3, q4⟩ := hJ n c' hc'
        rw [hg, e']
        try dsimp only
        exact ⟨by omega, by omega, q4⟩)
      (fun n n' hnn hn' e => by
        obtain ⟨c1, hc1, hg1⟩ := hC n (by omega)
        obtain ⟨c2, hc2, hg2⟩ := hC n' hn'
        obtain ⟨a3, b3, e3, -⟩ := hJ n c1 hc1
        obtain ⟨a4, b4, e4, -⟩ := hJ n' c2 hc2
        rw [hg1, hg2, e3]
        rw [e3, e4] at e
        try dsimp only at e ⊢
        have k1 := hlk.2.2 c1 (List.mem_of_getElem? hc1)
        have k2 := hlk.2.2 c2 (List.mem_of_getElem? hc2)
        have ek : c1.k = c2.k := by omega
        have := apart_of hleg n n' c1 c2 hnn hc1 hc2 ek
        rw [ek]
        exact this)
      (by
        have := hDT _ (Tk_mem hkn)
        show (wn : Int) + (Tk l c.k.toNat).j ≤ (Tk l c.k.toNat).t
        omega)
    have hask : askF (Tk l c.k.toNat).c (othF (aheadP l c.k.toNat) c.k.toNat l 0) (wn : Int) = (Tk l c.k.toNat).c + FK.sumN l.length (fun k => if k ≠ c.k.toNat ∧ (Tk l c.k.toNat).p ≤ (Tk l k).p then ((wn : Int) + (Tk l k).j + (Tk l k).t - 1) / (Tk l k).t * (Tk l k).c else 0) := by
      have h1 := sumO_sumN (A := aheadP l c.k.toNat) (i := c.k.toNat) (w := (wn : Int)) (l := l) l.length 0 (by omega)
      have h2 : FK.sumN l.length (fun k => if k ≠ c.k.toNat ∧ (Tk l c.k.toNat).p ≤ (Tk l k).p then ((wn : Int) + (Tk l k).j + (Tk l k).t - 1) / (Tk l k).t * (Tk l k).c else 0) = FK.sumN l.length (fun k => if k ≠ c.k.toNat ∧ aheadP l c.k.toNat k = true then up1 (wn : Int) (Tk l k) else 0) := by
        refine FK.sumN_eq _ (fun k _ => ?_)
        unfold aheadP up1
        simp
      rw [h2, h1]
      unfold askF
      rw [List.drop_zero]
      show _ = (Tk l c.k.toNat).c + (0 + _)
      omega
    have hH : FK.sumN js.length (fun n => if (Tk l c.k.toNat).p ≤ (S8.J js n).p ∧ (t0 : Int) ≤ (S8.J js n).a ∧ (S8.J js n).a < ((t0 + wn : Nat) : Int) then (S8.J js n).c else 0) = FK.sumN js.length (fun n => if (Tk l c.k.toNat).p ≤ (Tk l (S8.J js n).k.toNat).p ∧ (t0 : Int) ≤ (S8.J js n).a ∧ (S8.J js n).a < ((t0 + wn : Nat) : Int) then (S8.J js n).c else 0) := by
      refine FK.sumN_eq _ (fun n hn => ?_)
      obtain ⟨c', hc', -⟩ := hC n hn
      obtain ⟨a', b', e', -⟩ := hJ n c' hc'
      have ep : (S8.J js n).p = (Tk l (S8.J js n).k.toNat).p := by rw [e']
      rw [ep]
    have hfl := Int.mul_le_mul_of_nonneg_right (RK.faults_le hg hfa t0 wn) hl0
    unfold askR at w3
    rw [hask] at w3
    have hHle := Int.le_of_eq hH
    refine Int.le_trans (Int.add_le_add hHle (Int.le_refl _)) ?_
    omega)
  obtain ⟨e, h1, h2, h3⟩ := ends_ofR hok hp hs N (Nat.le_refl N) i (by omega) ((c.a + a).toNat + wn) (by omega) hdone
  exact ⟨e, h1, h2, by omega⟩
end Go.Proofs.Ytekbkcgpjkecbal
