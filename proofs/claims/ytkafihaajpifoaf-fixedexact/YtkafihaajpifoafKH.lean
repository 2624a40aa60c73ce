import Derived.Test.YtkafihaajpifoafRows
import Derived.Test.YtkafihaajpifoafSPX
import Derived.Test.YtkafihaajpifoafJJ
import Derived.Test.YtkafihaajpifoafXE
import Derived.Test.YtkafihaajpifoafJP
namespace Go.Proofs.Ytkafihaajpifoaf.FK

/- Sums over the first n. -/
def sumN : Nat → (Nat → Int) → Int
  | 0, _ => 0
  | n + 1, f => sumN n f + f n

theorem sumN_le : ∀ (n : Nat) {f g : Nat → Int}, (∀ i, i < n → f i ≤ g i) → sumN n f ≤ sumN n g
  | 0, _, _, _ => Int.le_refl _
  | n + 1, f, g, h => by
    have h1 := sumN_le n (f := f) (g := g) (fun i hi => h i (by omega))
    have h2 := h n (by omega)
    unfold sumN
    omega

theorem sumN_eq : ∀ (n : Nat) {f g : Nat → Int}, (∀ i, i < n → f i = g i) → sumN n f = sumN n g
  | 0, _, _, _ => rfl
  | n + 1, f, g, h => by
    unfold sumN
    rw [sumN_eq n (fun i hi => h i (by omega)), h n (by omega)]

theorem sumN_nonneg (n : Nat) {f : Nat → Int} (h : ∀ i, i < n → 0 ≤ f i) : 0 ≤ sumN n f := by
  have : sumN n (fun _ => 0) = 0 := by
    induction n with
    | zero => rfl
    | succ n ih => unfold sumN; rw [ih (fun i hi => h i (by omega))]; rfl
  rw [← this]
  exact sumN_le n h

theorem sumN_each : ∀ (n : Nat) {f : Nat → Int}, (∀ i, i < n → 0 ≤ f i) → sumN n f ≤ 0 → ∀ i, i < n → f i = 0
  | 0, _, _, _, i, hi => by omega
  | n + 1, f, h, hs, i, hi => by
    have h1 := sumN_nonneg n (f := f) (fun i hi => h i (by omega))
    have h2 := h n (by omega)
    unfold sumN at hs
    by_cases e : i = n
    · subst e; omega
    · exact sumN_each n (fun i hi => h i (by omega)) (by omega) i (by omega)

theorem sumN_one : ∀ (n : Nat) {f g : Nat → Int} (k : Nat), k < n → g k = f k - 1 → (∀ i, i < n → i ≠ k → g i = f i) → sumN n g = sumN n f - 1
  | 0, _, _, k, hk, _, _ => by omega
  | n + 1, f, g, k, hk, h1, h2 => by
    unfold sumN
    by_cases e : k = n
    · subst e
      rw [sumN_eq k (f := g) (g := f) (fun i hi => h2 i (by omega) (by omega)), h1]
      omega
    · rw [sumN_one n k (by omega) h1 (fun i hi hn => h2 i (by omega) hn), h2 n (by omega) (by omega)]
      omega

theorem sumN_add (n : Nat) (f g : Nat → Int) : sumN n (fun i => f i + g i) = sumN n f + sumN n g := by
  induction n with
  | zero => rfl
  | succ n ih => unfold sumN; rw [ih]; dsimp only; omega

theorem sumN_swap (n m : Nat) (A : Nat → Nat → Int) : sumN n (fun i => sumN m (fun k => A i k)) = sumN m (fun k => sumN n (fun i => A i k)) := by
  induction n with
  | zero =>
    show (0 : Int) = sumN m (fun _ => 0)
    induction m with
    | zero => rfl
    | succ m ih => unfold sumN; rw [← ih]; rfl
  | succ n ih =>
    show sumN n (fun i => sumN m (fun k => A i k)) + sumN m (fun k => A n k) = sumN m (fun k => sumN n (fun i => A i k) + A n k)
    rw [ih, sumN_add]

theorem sumN_pick : ∀ (m : Nat) (k0 : Nat) (v : Int), k0 < m → sumN m (fun k => if k = k0 then v else 0) = v
  | 0, k0, v, h => by omega
  | m + 1, k0, v, h => by
    unfold sumN
    dsimp only
    by_cases e : k0 = m
    · subst e
      rw [if_pos rfl, sumN_eq k0 (g := fun _ => 0) (fun i hi => if_neg (by omega))]
      have : sumN k0 (fun _ => 0) = 0 := by
        clear h
        induction k0 with
        | zero => rfl
        | succ n ih => unfold sumN; rw [ih]; rfl
      rw [this]; omega
    · rw [if_neg (by omega), sumN_pick m k0 v (by omega)]
      omega

/- Jobs that are played: r when they are there, x how long they take, L what is left of each, tick by tick; H those that go ahead. -/
structure Run (n N : Nat) (r x : Nat → Int) (H : Nat → Prop) (L : Nat → Nat → Int) : Prop where
  r0 : ∀ i, i < n → 0 ≤ r i
  init : ∀ i, i < n → L 0 i = x i
  nneg : ∀ t i, t ≤ N → i < n → 0 ≤ L t i
  step : ∀ t, t < N → ((∀ i, i < n → L (t + 1) i = L t i) ∧ ∀ i, i < n → H i → r i ≤ t → L t i = 0) ∨
    ∃ k, k < n ∧ r k ≤ t ∧ 0 < L t k ∧ L (t + 1) k = L t k - 1 ∧ (∀ i, i < n → i ≠ k → L (t + 1) i = L t i) ∧ (H k ∨ ∀ i, i < n → H i → r i ≤ t → L t i = 0)

def Quiet (n : Nat) (r : Nat → Int) (H : Nat → Prop) (L : Nat → Nat → Int) (t : Nat) : Prop := ∀ i, i < n → H i → r i < t → L t i = 0

theorem Run.down {n N : Nat} {r x : Nat → Int} {H : Nat → Prop} {L : Nat → Nat → Int} (h : Run n N r x H L) {i : Nat} (hi : i < n) : ∀ (d t : Nat), t + d ≤ N → L (t + d) i ≤ L t i
  | 0, t, _ => Int.le_refl _
  | d + 1, t, ht => by
    have h1 := h.down hi d t (by omega)
    have : L (t + d + 1) i ≤ L (t + d) i := by
      rcases h.step (t + d) (by omega) with ⟨h2, -⟩ | ⟨k, hk, -, -, h3, h4, -⟩
      · rw [h2 i hi]; exact Int.le_refl _
      · by_cases e : i = k
        · subst e; omega
        · rw [h4 i hi e]; exact Int.le_refl _
    rw [show t + (d + 1) = t + d + 1 by omega]
    omega

theorem Run.zero {n N : Nat} {r x : Nat → Int} {H : Nat → Prop} {L : Nat → Nat → Int} (h : Run n N r x H L) {i t u : Nat} (hi : i < n) (hz : L t i = 0) (htu : t ≤ u) (hu : u ≤ N) : L u i = 0 := by
  have h1 := h.down hi (u - t) t (by omega)
  rw [show t + (u - t) = u by omega] at h1
  have h2 := h.nneg u i hu hi
  omega

/-- The busy time: where all that comes within w takes w at most, there is a quiet time within w. -/
theorem Run.busy {n N : Nat} {r x : Nat → Int} {H : Nat → Prop} [DecidablePred H] {L : Nat → Nat → Int} (h : Run n N r x H L) {t0 w : Nat} (hq : Quiet n r H L t0) (hw : 1 ≤ w) (hN : t0 + w ≤ N)
    (hs : sumN n (fun i => if H i ∧ (t0 : Int) ≤ r i ∧ r i < ((t0 + w : Nat) : Int) then x i else 0) ≤ (w : Int)) : ∃ q, t0 < q ∧ q ≤ t0 + w ∧ Quiet n r H L q := by
  apply Classical.byContradiction
  intro hno
  have hno' : ∀ q, t0 < q → q ≤ t0 + w → ¬ Quiet n r H L q := fun q h1 h2 h3 => hno ⟨q, h1, h2, h3⟩
  let S : Nat → Int := fun t => sumN n (fun i => if H i ∧ (t0 : Int) ≤ r i ∧ r i < ((t0 + w : Nat) : Int) then L t i else 0)
  have key : ∀ d, d ≤ w → S (t0 + d) = S t0 - (d : Int) := by
    intro d
    induction d with
    | zero => intro _; show S t0 = _; omega
    | succ d ih =>
      intro hd
      have hbad := hno' (t0 + d + 1) (by omega) (by omega)
      have hnone : ¬ ∀ i, i < n → H i → r i ≤ ((t0 + d : Nat) : Int) → L (t0 + d) i = 0 := fun hall => hbad fun i hi hHi hr => by
        have hz := hall i hi hHi (by omega)
        exact h.zero hi hz (Nat.le_succ _) (by omega)
      rcases h.step (t0 + d) (by omega) with ⟨-, h2⟩ | ⟨k, hk, hrk, hpos, h3, h4, h5⟩
      · exact absurd h2 hnone
      · rcases h5 with h5 | h5
        · have hlow : (t0 : Int) ≤ r k := by
            apply Classical.byContradiction
            intro hc
            have hz := hq k hk h5 (by omega)
            have := h.zero hk hz (Nat.le_add_right t0 d) (by omega)
            omega
          have hin : H k ∧ (t0 : Int) ≤ r k ∧ r k < ((t0 + w : Nat) : Int) := ⟨h5, hlow, by omega⟩
          have : S (t0 + d + 1) = S (t0 + d) - 1 := by
            refine sumN_one n k hk ?_ (fun i hi hne => ?_)
            · rw [if_pos hin, if_pos hin, h3]
            · rw [h4 i hi hne]
          rw [show t0 + (d + 1) = t0 + d + 1 by omega, this, ih (by omega)]
          omega
        · exact absurd h5 hnone
  have hw0 := key w (Nat.le_refl w)
  have hS0 : S t0 ≤ (w : Int) := by
    refine Int.le_trans (sumN_le n (fun i hi => ?_)) hs
    by_cases hc : H i ∧ (t0 : Int) ≤ r i ∧ r i < ((t0 + w : Nat) : Int)
    · rw [if_pos hc, if_pos hc]
      have h1 := h.down hi t0 0 (by omega)
      rw [Nat.zero_add, h.init i hi] at h1
      exact h1
    · rw [if_neg hc, if_neg hc]; exact Int.le_refl _
  refine hno' (t0 + w) (by omega) (Nat.le_refl _) (fun i hi hHi hr => ?_)
  by_cases hlow : r i < (t0 : Int)
  · exact h.zero hi (hq i hi hHi hlow) (by omega) hN
  · have he := sumN_each n (f := fun i => if H i ∧ (t0 : Int) ≤ r i ∧ r i < ((t0 + w : Nat) : Int) then L (t0 + w) i else 0) (fun i hi => by
      split
      · exact h.nneg _ i hN hi
      · exact Int.le_refl _) (by show S (t0 + w) ≤ 0; omega) i hi
    have hin : H i ∧ (t0 : Int) ≤ r i ∧ r i < ((t0 + w : Nat) : Int) := ⟨hHi, by omega, hr⟩
    rw [if_pos hin] at he
    exact he

theorem last_quiet {n : Nat} {r : Nat → Int} {H : Nat → Prop} {L : Nat → Nat → Int} (h0 : ∀ i, i < n → 0 ≤ r i) : ∀ m : Nat, ∃ t0, t0 ≤ m ∧ Quiet n r H L t0 ∧ ∀ q, t0 < q → q ≤ m → ¬ Quiet n r H L q
  | 0 => ⟨0, Nat.le_refl _, fun i hi _ hr => by have := h0 i hi; omega, fun q h1 h2 => by omega⟩
  | m + 1 => by
    by_cases hq : Quiet n r H L (m + 1)
    · exact ⟨m + 1, Nat.le_refl _, hq, fun q h1 h2 => by omega⟩
    · obtain ⟨t0, h1, h2, h3⟩ := last_quiet h0 m
      refine ⟨t0, by omega, h2, fun q g1 g2 => ?_⟩
      by_cases e : q = m + 1
      · subst e; exact hq
      · exact h3 q g1 (by omega)

/-- Each job that goes ahead is done within w of its being there. -/
theorem Run.done {n N : Nat} {r x : Nat → Int} {H : Nat → Prop} [DecidablePred H] {L : Nat → Nat → Int} (h : Run n N r x H L) {i m w : Nat} (hi : i < n) (hH : H i) (hm : r i = (m : Int)) (hw : 1 ≤ w) (hN : m + w ≤ N)
    (hs : ∀ t0 : Nat, t0 ≤ m → sumN n (fun i => if H i ∧ (t0 : Int) ≤ r i ∧ r i < ((t0 + w : Nat) : Int) then x i else 0) ≤ (w : Int)) : L (m + w) i = 0 := by
  obtain ⟨t0, h1, h2, h3⟩ := last_quiet (H := H) (L := L) h.r0 m
  obtain ⟨q, g1, g2, g3⟩ := h.busy h2 hw (by omega) (hs t0 h1)
  have hqm : m < q := by
    apply Classical.byContradiction
    intro hc
    exact h3 q g1 (by omega) g3
  exact h.zero hi (g3 i hi hH (by omega)) (by omega) hN

/- How many of one task come within a time. -/
theorem come_count {n : Nat} {a r x : Nat → Int} {M : Nat → Prop} [DecidablePred M] {t0 w J T C : Int} (hT : 0 < T) (hC : 0 ≤ C)
    (hM : ∀ i, i < n → M i → t0 ≤ r i ∧ r i < t0 + w ∧ a i ≤ r i ∧ r i ≤ a i + J ∧ x i ≤ C)
    (hsp : ∀ i j, i < j → j < n → M i → M j → a i + T ≤ a j) : ∀ m, m ≤ n → ∃ c : Nat, sumN m (fun i => if M i then x i else 0) ≤ (c : Int) * C ∧ (c = 0 ∧ (∀ i, i < m → ¬ M i) ∨ 1 ≤ c ∧ ∃ i, i < m ∧ M i ∧ (∀ j, i < j → j < m → ¬ M j) ∧ (t0 - J) + ((c : Int) - 1) * T ≤ a i)
  | 0, _ => ⟨0, by simp [sumN], .inl ⟨rfl, fun i hi => by omega⟩⟩
  | m + 1, hm => by
    obtain ⟨c, h1, h2⟩ := come_count hT hC hM hsp m (by omega)
    by_cases hc : M m
    · have hmm := hM m (by omega) hc
      refine ⟨c + 1, ?_, .inr ⟨by omega, m, by omega, hc, fun j g1 g2 => by omega, ?_⟩⟩
      · show sumN m _ + (if M m then x m else 0) ≤ _
        rw [if_pos hc]
        have e : ((c + 1 : Nat) : Int) * C = (c : Int) * C + C := by rw [Int.natCast_succ, Int.add_mul]; omega
        rw [e]
        omega
      · rcases h2 with ⟨rfl, -⟩ | ⟨hc1, i, hi, hMi, -, ha⟩
        · have e : (((0 + 1 : Nat) : Int) - 1) * T = 0 := by simp
          rw [e]
          omega
        · have := hsp i m hi (by omega) hMi hc
          have e : (((c + 1 : Nat) : Int) - 1) * T = ((c : Int) - 1) * T + T := by
            rw [show (((c + 1 : Nat) : Int) - 1) = ((c : Int) - 1) + 1 by omega, Int.add_mul]
            omega
          rw [e]
          omega
    · refine ⟨c, ?_, ?_⟩
      · show sumN m _ + (if M m then x m else 0) ≤ _
        rw [if_neg hc]
        omega
      · rcases h2 with ⟨h2, h3⟩ | ⟨hc1, i, hi, hMi, hl, ha⟩
        · refine .inl ⟨h2, fun i hi => ?_⟩
          by_cases e : i = m
          · subst e; exact hc
          · exact h3 i (by omega)
        · refine .inr ⟨hc1, i, by omega, hMi, fun j g1 g2 => ?_, ha⟩
          by_cases e : j = m
          · subst e; exact hc
          · exact hl j g1 (by omega)

/-- All of one task within a time: as many as come, rounded up, times C. -/
theorem come_sum {n : Nat} {a r x : Nat → Int} {M : Nat → Prop} [DecidablePred M] {t0 w J T C : Int} (hT : 0 < T) (hC : 0 ≤ C) (hJ : 0 ≤ J) (hw : 0 ≤ w)
    (hM : ∀ i, i < n → M i → t0 ≤ r i ∧ r i < t0 + w ∧ a i ≤ r i ∧ r i ≤ a i + J ∧ x i ≤ C)
    (hsp : ∀ i j, i < j → j < n → M i → M j → a i + T ≤ a j) : sumN n (fun i => if M i then x i else 0) ≤ (w + J + T - 1) / T * C ∧ (w + J ≤ T → sumN n (fun i => if M i then x i else 0) ≤ C) := by
  obtain ⟨c, h1, h2⟩ := come_count hT hC hM hsp n (Nat.le_refl n)
  have hcT : ((c : Int) - 1) * T < w + J ∨ c = 0 := by
    rcases h2 with ⟨h2, -⟩ | ⟨hc1, i, hi, hMi, -, ha⟩
    · exact .inr h2
    · have := hM i hi hMi
      exact .inl (by omega)
  constructor
  · refine Int.le_trans h1 (Int.mul_le_mul_of_nonneg_right ?_ hC)
    rcases hcT with hcT | rfl
    · rw [Int.le_ediv_iff_mul_le hT]
      have e : ((c : Int) - 1) * T = (c : Int) * T - T := by rw [Int.sub_mul]; omega
      omega
    · exact Int.ediv_nonneg (by omega) (by omega)
  · intro hwJ
    have hc1 : (c : Int) ≤ 1 := by
      rcases hcT with hcT | rfl
      · apply Classical.byContradiction
        intro hgt
        have : 1 * T ≤ ((c : Int) - 1) * T := Int.mul_le_mul_of_nonneg_right (by omega) (by omega)
        omega
      · omega
    have : (c : Int) * C ≤ 1 * C := Int.mul_le_mul_of_nonneg_right hc1 hC
    omega

/-- All tasks together. -/
theorem all_sum {n m : Nat} {a r x : Nat → Int} {kt : Nat → Nat} {Hk : Nat → Prop} [DecidablePred Hk] {J T C : Nat → Int} {k0 t0 w : Nat}
    (hk : ∀ i, i < n → kt i < m) (hk0 : k0 < m) (hw : 1 ≤ w) (hpos : ∀ k, k < m → 0 < T k ∧ 0 ≤ C k ∧ 0 ≤ J k)
    (hx : ∀ i, i < n → a i ≤ r i ∧ r i ≤ a i + J (kt i) ∧ x i ≤ C (kt i))
    (hsp : ∀ i j, i < j → j < n → kt i = kt j → a i + T (kt i) ≤ a j) (hown : (w : Int) + J k0 ≤ T k0) :
    sumN n (fun i => if Hk (kt i) ∧ (t0 : Int) ≤ r i ∧ r i < ((t0 + w : Nat) : Int) then x i else 0) ≤ C k0 + sumN m (fun k => if k ≠ k0 ∧ Hk k then ((w : Int) + J k + T k - 1) / T k * C k else 0) := by
  have e1 : sumN n (fun i => if Hk (kt i) ∧ (t0 : Int) ≤ r i ∧ r i < ((t0 + w : Nat) : Int) then x i else 0) = sumN n (fun i => sumN m (fun k => if Hk k then (if kt i = k ∧ (t0 : Int) ≤ r i ∧ r i < ((t0 + w : Nat) : Int) then x i else 0) else 0)) := by
    refine sumN_eq n (fun i hi => ?_)
    rw [← sumN_pick m (kt i) (if Hk (kt i) ∧ (t0 : Int) ≤ r i ∧ r i < ((t0 + w : Nat) : Int) then x i else 0) (hk i hi)]
    refine sumN_eq m (fun k _ => ?_)
    by_cases e : k = kt i
    · subst e
      rw [if_pos rfl]
      by_cases h1 : Hk (kt i)
      · simp [h1]
      · simp [h1]
    · rw [if_neg e]
      have : ¬ kt i = k := fun h => e h.symm
      simp [this]
  rw [e1, sumN_swap]
  have e2 : C k0 + sumN m (fun k => if k ≠ k0 ∧ Hk k then ((w : Int) + J k + T k - 1) / T k * C k else 0) = sumN m (fun k => (if k = k0 then C k0 else 0) + (if k ≠ k0 ∧ Hk k then ((w : Int) + J k + T k - 1) / T k * C k else 0)) := by
    rw [sumN_add, sumN_pick m k0 (C k0) hk0]
  rw [e2]
  refine sumN_le m (fun k hkm => ?_)
  obtain ⟨hT, hC, hJ⟩ := hpos k hkm
  have hc := come_sum (n := n) (a := a) (r := r) (x := x) (M := fun i => kt i = k ∧ (t0 : Int) ≤ r i ∧ r i < ((t0 + w : Nat) : Int)) (t0 := t0) (w := w) hT hC hJ (by omega) (fun i hi hMi => by
    obtain ⟨rfl, g1, g2⟩ := hMi
    obtain ⟨b1, b2, b3⟩ := hx i hi
    exact ⟨g1, by omega, b1, b2, b3⟩) (fun i j hij hj hMi hMj => by
    obtain ⟨rfl, -⟩ := hMi
    exact hsp i j hij hj hMj.1.symm)
  have hup : 0 ≤ ((w : Int) + J k + T k - 1) / T k * C k := Int.mul_nonneg (Int.ediv_nonneg (by omega) (by omega)) hC
  show sumN n (fun i => if Hk k then _ else 0) ≤ _
  by_cases hHk : Hk k
  · have e3 : sumN n (fun i => if Hk k then (if kt i = k ∧ (t0 : Int) ≤ r i ∧ r i < ((t0 + w : Nat) : Int) then x i else 0) else 0) = sumN n (fun i => if kt i = k ∧ (t0 : Int) ≤ r i ∧ r i < ((t0 + w : Nat) : Int) then x i else 0) := sumN_eq n (fun i _ => if_pos hHk)
    rw [e3]
    by_cases e : k = k0
    · subst e
      have := hc.2 hown
      simp
      exact this
    · rw [if_neg e, if_pos ⟨e, hHk⟩]
      have := hc.1
      omega
  · have e3 : sumN n (fun i => if Hk k then (if kt i = k ∧ (t0 : Int) ≤ r i ∧ r i < ((t0 + w : Nat) : Int) then x i else 0) else 0) = 0 := by
      rw [sumN_eq n (g := fun _ => 0) (fun i _ => if_neg hHk)]
      clear e1 e2 hc hsp hx hk
      induction n with
      | zero => rfl
      | succ n ih => unfold sumN; rw [ih]; rfl
    rw [e3]
    have : 0 ≤ C k0 := (hpos k0 hk0).2.1
    by_cases e : k = k0
    · rw [if_pos e, if_neg (by simp [e])]; omega
    · rw [if_neg e, if_neg (by simp [hHk])]; omega
end Go.Proofs.Ytkafihaajpifoaf.FK
namespace Go.Proofs.Ytkafihaajpifoaf
open Go.ChangeShapes Go.WideShapes Go.ChangeAt Go.RowKit

/- How jobs are played, as a run. -/
theorem plays_seq {l : List Jb} {pol : Int} {pre : Bool} : ∀ (t : Nat) (s : S8.St), S8.Plays l pol pre t s → ∃ f : Nat → S8.St, f t = s ∧ (∀ u, u ≤ t → S8.Plays l pol pre u (f u)) ∧ ∀ u, u < t → ∃ b, S8.Pick l pol pre u (f u) b ∧ f (u + 1) = (f u).after u b
  | 0, s, h => ⟨fun _ => s, rfl, fun u hu => by rw [show u = 0 by omega]; exact h, fun u hu => by omega⟩
  | t + 1, s, h => by
    obtain ⟨s0, b, h1, h2, h3⟩ := id h
    obtain ⟨f, e, hp, hs⟩ := plays_seq t s0 h1
    refine ⟨fun u => if u ≤ t then f u else s, by dsimp only; rw [if_neg (by omega)], fun u hu => ?_, fun u hu => ?_⟩
    · dsimp only
      by_cases hc : u ≤ t
      · rw [if_pos hc]; exact hp u hc
      · rw [if_neg hc, show u = t + 1 by omega]; exact h
    · dsimp only
      by_cases hc : u + 1 ≤ t
      · rw [if_pos hc, if_pos (show u ≤ t by omega)]
        exact hs u (by omega)
      · have hu' : u = t := by omega
        subst hu'
        rw [if_neg hc, if_pos (Nat.le_refl u), e]
        exact ⟨b, h2, h3⟩

theorem after_some {s : S8.St} {t i : Nat} : s.after t (i : Int) = ⟨s.left.set i (S8.L s.left i - 1), if S8.L s.left i - 1 = 0 then s.ends.set i ((t : Int) + 1) else s.ends, s.runs ++ [(i : Int)]⟩ := by
  unfold S8.St.after
  rw [if_neg (by omega), Int.toNat_natCast]

theorem run_of {js : List Jb} {N : Nat} {f : Nat → S8.St} (hok : ∀ x ∈ js, S8.okJ x) (hp : ∀ u, u ≤ N → S8.Plays js 1 true u (f u)) (hs : ∀ u, u < N → ∃ b, S8.Pick js 1 true u (f u) b ∧ f (u + 1) = (f u).after u b) (P0 : Int) :
    FK.Run js.length N (fun i => (S8.J js i).a) (fun i => (S8.J js i).c) (fun i => P0 ≤ (S8.J js i).p) (fun t i => S8.L (f t).left i) := by
  have hO : ∀ u, u ≤ N → S8.Ok js u (f u) := fun u hu => S8.plays_ok hok u _ (hp u hu)
  have hJ : ∀ i, i < js.length → S8.okJ (S8.J js i) ∧ js[i]? = some (S8.J js i) := fun i hi => by
    have e : js[i]? = some (S8.J js i) := by unfold S8.J; rw [List.getD_eq_getElem?_getD]; simp [hi]
    exact ⟨hok _ (List.mem_of_getElem? e), e⟩
  refine ⟨fun i hi => (hJ i hi).1.1, fun i hi => ?_, fun t i ht hi => (hO t ht).nneg i, fun t ht => ?_⟩
  · have h0 : f 0 = S8.St.init js := hp 0 (Nat.zero_le _)
    show S8.L (f 0).left i = _
    rw [h0]
    unfold S8.L S8.St.init
    dsimp only
    rw [List.getD_eq_getElem?_getD, List.getElem?_map, (hJ i hi).2]
    rfl
  · obtain ⟨b, hb, he⟩ := hs t ht
    have hn := (hO t (by omega)).nneg
    have hl := (hO t (by omega)).left
    rcases hb with ⟨h, -⟩ | ⟨-, hb⟩
    · cases h
    rcases hb with ⟨rfl, hb⟩ | ⟨k, rfl, hk, h1, h2, h3⟩
    · refine .inl ⟨fun i hi => ?_, fun i hi _ hr => ?_⟩
      · show S8.L (f (t + 1)).left i = _
        rw [he]; rfl
      · have := hb i hi
        have := hn i
        show S8.L (f t).left i = 0
        omega
    · have hL : ∀ j, S8.L (f (t + 1)).left j = if j = k then S8.L (f t).left k - 1 else S8.L (f t).left j := fun j => by
        rw [he, after_some]
        exact S8.L_set (by rw [hl]; exact hk)
      refine .inr ⟨k, hk, h1, h2, ?_, fun i hi hne => ?_, ?_⟩
      · show S8.L (f (t + 1)).left k = _
        rw [hL, if_pos rfl]
      · show S8.L (f (t + 1)).left i = _
        rw [hL, if_neg hne]
      · by_cases hH : P0 ≤ (S8.J js k).p
        · exact .inl hH
        · refine .inr fun i hi hHi hr => ?_
          apply Classical.byContradiction
          intro hne
          have hpos : 0 < S8.L (f t).left i := by have := hn i; have : ¬ S8.L (f t).left i = 0 := hne; omega
          have hik : i ≠ k := fun e => by subst e; exact hH hHi
          have := h3 i hi hr hpos hik
          unfold S8.lexJ S8.lex S8.key at this
          simp only [if_true] at this
          have hHi' : P0 ≤ (S8.J js i).p := hHi
          omega

theorem ends_of {js : List Jb} {N : Nat} {f : Nat → S8.St} (hok : ∀ x ∈ js, S8.okJ x) (hp : ∀ u, u ≤ N → S8.Plays js 1 true u (f u)) (hs : ∀ u, u < N → ∃ b, S8.Pick js 1 true u (f u) b ∧ f (u + 1) = (f u).after u b) :
    ∀ u, u ≤ N → ∀ i, i < js.length → ∀ q, q ≤ u → S8.L (f q).left i = 0 → ∃ e, (f u).ends[i]? = some e ∧ 1 ≤ e ∧ e ≤ (q : Int) := by
  have R := run_of hok hp hs 0
  intro u
  induction u with
  | zero =>
    intro _ i hi q hq hz
    rw [show q = 0 by omega] at hz
    have h1 := R.init i hi
    have e : js[i]? = some (S8.J js i) := by unfold S8.J; rw [List.getD_eq_getElem?_getD]; simp [hi]
    have h2 := (hok _ (List.mem_of_getElem? e)).2.2.1
    have h3 : S8.L (f 0).left i = (S8.J js i).c := h1
    omega
  | succ u ih =>
    intro hu i hi q hq hz
    obtain ⟨b, hb, he⟩ := hs u (by omega)
    have hO := S8.plays_ok hok u _ (hp u (by omega))
    have hpick := S8.pick_rng hO hb
    by_cases hzu : S8.L (f u).left i = 0
    · have hq' : ∃ q', q' ≤ u ∧ q' ≤ q ∧ S8.L (f q').left i = 0 := by
        by_cases hqu : q ≤ u
        · exact ⟨q, hqu, Nat.le_refl _, hz⟩
        · exact ⟨u, Nat.le_refl _, by omega, hzu⟩
      obtain ⟨q', g1, g2, g3⟩ := hq'
      obtain ⟨e, h1, h2, h3⟩ := ih (by omega) i hi q' g1 g3
      refine ⟨e, ?_, h2, by omega⟩
      rw [he]
      rcases hpick with rfl | ⟨k, rfl, hk, hpos⟩
      · exact h1
      · rw [after_some]
        have hne : k ≠ i := fun e => by subst e; omega
        show (if S8.L (f u).left k - 1 = 0 then (f u).ends.set k ((u : Int) + 1) else (f u).ends)[i]? = some e
        split
        · rw [List.getElem?_set_ne hne]; exact h1
        · exact h1
    · have hqu : q = u + 1 := by
        apply Classical.byContradiction
        intro hne
        exact hzu (R.zero (t := q) (u := u) hi hz (by omega) (by omega))
      subst hqu
      rw [he] at hz ⊢
      rcases hpick with rfl | ⟨k, rfl, hk, hpos⟩
      · exact absurd hz hzu
      · rw [after_some] at hz ⊢
        dsimp only at hz ⊢
        rw [S8.L_set (by rw [hO.left]; exact hk)] at hz
        by_cases hik : i = k
        · subst hik
          rw [if_pos rfl] at hz
          rw [if_pos hz]
          refine ⟨(u : Int) + 1, ?_, by omega, by omega⟩
          rw [List.getElem?_set_self (by rw [hO.ends]; exact hk)]
        · rw [if_neg hik] at hz
          exact absurd hz hzu

/- The jobs of comings, one by one. -/
theorem jobsFrom_each {l : List Ta} : ∀ (cs : List Co) (acc : List Jb) (la tk : List Int) (i : Nat) (js : List Jb), la.length = cs.length → tk.length = cs.length → jobsFrom l acc cs la tk i = ((0, 0), js) →
    ∃ new : List Jb, js = acc ++ new ∧ new.length = cs.length ∧ ∀ (n : Nat) (c : Co), cs[n]? = some c → ∃ a b : Int, new[n]? = some (⟨c.k, c.a + a, b, c.a + (l.getD c.k.toNat ta0).d, (l.getD c.k.toNat ta0).p⟩ : Jb) ∧ 0 ≤ a ∧ a ≤ (l.getD c.k.toNat ta0).j ∧ 1 ≤ b ∧ b ≤ (l.getD c.k.toNat ta0).c
  | [], acc, la, tk, i, js, h1, h2, h => by
    rw [jobsFrom_end] at h
    refine ⟨[], ?_, rfl, fun n c hc => by simp at hc⟩
    simp at h
    simp [h]
  | c0 :: cs, acc, [], tk, i, js, h1, h2, h => by simp at h1
  | c0 :: cs, acc, a :: la, [], i, js, h1, h2, h => by simp at h2
  | c0 :: cs, acc, a :: la, b :: tk, i, js, h1, h2, h => by
    rw [jobsFrom] at h
    unfold jobOne at h
    by_cases hc : a < 0 ∨ (l.getD c0.k.toNat ta0).j < a ∨ b < 1 ∨ (l.getD c0.k.toNat ta0).c < b
    · rw [if_pos hc] at h
      simp at h
    · rw [if_neg hc] at h
      obtain ⟨new, g1, g2, g3⟩ := jobsFrom_each cs _ la tk (i + 1) js (by simpa using h1) (by simpa using h2) h
      refine ⟨_ :: new, by rw [g1, List.append_assoc]; rfl, by simp [g2], fun n c hn => ?_⟩
      cases n with
      | zero =>
        simp at hn
        subst hn
        exact ⟨a, b, rfl, by omega, by omega, by omega, by omega⟩
      | succ n => simpa using g3 n c (by simpa using hn)

theorem jobsF_ok {l : List Ta} {cs : List Co} {la tk : List Int} {js : List Jb} (h : jobsF l cs la tk = ((0, 0), js)) : (legF l cs).1 = 0 ∧ js.length = cs.length ∧ ∀ (n : Nat) (c : Co), cs[n]? = some c → ∃ a b : Int, js[n]? = some (⟨c.k, c.a + a, b, c.a + (l.getD c.k.toNat ta0).d, (l.getD c.k.toNat ta0).p⟩ : Jb) ∧ 0 ≤ a ∧ a ≤ (l.getD c.k.toNat ta0).j ∧ 1 ≤ b ∧ b ≤ (l.getD c.k.toNat ta0).c := by
  unfold jobsF at h
  by_cases h0 : (legF l cs).1 ≠ 0
  · rw [if_pos h0] at h
    simp at h
    exact absurd (by rw [h.1]) h0
  · rw [if_neg h0] at h
    by_cases h1 : la.length ≠ cs.length ∨ tk.length ≠ cs.length
    · rw [if_pos h1] at h; simp at h
    · rw [if_neg h1] at h
      obtain ⟨new, g1, g2, g3⟩ := jobsFrom_each cs [] la tk 0 js (by omega) (by omega) h
      rw [List.nil_append] at g1
      subst g1
      exact ⟨by omega, g2, g3⟩

theorem soonOf_cons2 {l : List Ta} {past : List Co} {c : Co} {k : Int} : soonOf l (c :: past) k = if c.k = k then c.a + (l.getD k.toNat ta0).t else soonOf l past k := by
  unfold soonOf lastOf
  rw [List.find?_cons]
  by_cases h : c.k = k
  · simp [h]
  · simp [h]

/-- Two comings of one task are T apart. -/
theorem leg_apart {l : List Ta} (hl : ∀ x ∈ l, stands x = true) : ∀ (r past : List Co) (i : Nat), (legFrom l past r i).1 = 0 → (∀ c ∈ past, c.a + (l.getD c.k.toNat ta0).t ≤ soonOf l past c.k) →
    (∀ c0 ∈ past, ∀ c ∈ r, c0.k = c.k → c0.a + (l.getD c.k.toNat ta0).t ≤ c.a) ∧ r.Pairwise (fun c0 c => c0.k = c.k → c0.a + (l.getD c.k.toNat ta0).t ≤ c.a)
  | [], _, _, _, _ => ⟨fun _ _ c hc => by simp at hc, List.Pairwise.nil⟩
  | x :: r, past, i, h, hp => by
    rw [legFrom] at h
    by_cases hx : legOne l past x = 0
    · rw [if_pos hx] at h
      have hr := legOne_ok hx
      have hs : soonOf l past x.k ≤ x.a := by
        unfold legOne at hx
        rw [if_neg (by omega), if_neg (by omega)] at hx
        apply Classical.byContradiction
        intro hc
        rw [if_pos (by omega)] at hx
        cases hx
      have hT : 1 ≤ (l.getD x.k.toNat ta0).t := (stands_t (stands_mem hl (k := x.k.toNat) (by omega))).1
      have hp' : ∀ c ∈ x :: past, c.a + (l.getD c.k.toNat ta0).t ≤ soonOf l (x :: past) c.k := fun c hc => by
        rw [soonOf_cons2]
        rcases List.mem_cons.1 hc with rfl | hc
        · rw [if_pos rfl]; exact Int.le_refl _
        · have h1 := hp c hc
          by_cases e : x.k = c.k
          · rw [if_pos e]
            rw [← e] at h1 ⊢
            omega
          · rw [if_neg e]; exact h1
      obtain ⟨g1, g2⟩ := leg_apart hl r (x :: past) (i + 1) h hp'
      refine ⟨fun c0 h0 c hc e => ?_, List.Pairwise.cons (fun c hc e => g1 x List.mem_cons_self c hc e) g2⟩
      rcases List.mem_cons.1 hc with rfl | hc
      · have := hp c0 h0
        rw [e] at this
        omega
      · exact g1 c0 (List.mem_cons_of_mem _ h0) c hc e
    · rw [if_neg hx] at h
      exact absurd h hx

theorem apart_of {l : List Ta} {cs : List Co} (h : (legF l cs).1 = 0) : ∀ (i j : Nat) (c c' : Co), i < j → cs[i]? = some c → cs[j]? = some c' → c.k = c'.k → c.a + (l.getD c'.k.toNat ta0).t ≤ c'.a := by
  have hk := legF_ok h
  have hl := (chkF_ok hk.1).2.2
  have h' : (legFrom l [] cs 0).1 = 0 := by
    unfold legF at h
    rw [if_neg (by have := hk.1; omega), if_neg (by have := hk.2.1; omega)] at h
    exact h
  have hp := (leg_apart hl cs [] 0 h' (fun c hc => by simp at hc)).2
  intro i j c c' hij hc hc' e
  rw [List.pairwise_iff_getElem] at hp
  obtain ⟨hi, rfl⟩ := List.getElem?_eq_some_iff.1 hc
  obtain ⟨hj, rfl⟩ := List.getElem?_eq_some_iff.1 hc'
  exact hp i j hi hj hij e

/- What is told. -/
theorem respsFrom_each {l : List Ta} : ∀ (bs : List Int) (k : Nat) (acc rs : List Int), respsFrom l bs k acc = (rs, (0, 0)) → ∃ new : List Int, rs = acc ++ new ∧ new.length = bs.length ∧ ∀ (n : Nat) (b : Int), bs[n]? = some b → new[n]? = some (respF l ((k + n : Nat) : Int) b).1 ∧ (respF l ((k + n : Nat) : Int) b).2.1 = 0
  | [], k, acc, rs, h => by
    unfold respsFrom at h
    simp at h
    exact ⟨[], by simp [h], rfl, fun n b hb => by simp at hb⟩
  | b0 :: r, k, acc, rs, h => by
    unfold respsFrom at h
    by_cases hz : (respF l (k : Int) b0).2.1 ≠ 0
    · rw [if_pos hz] at h
      simp at h
      exact absurd (by rw [h.2]) hz
    · rw [if_neg hz] at h
      obtain ⟨new, g1, g2, g3⟩ := respsFrom_each r (k + 1) _ rs h
      refine ⟨_ :: new, by rw [g1, List.append_assoc]; rfl, by simp [g2], fun n b hb => ?_⟩
      cases n with
      | zero =>
        simp at hb
        subst hb
        exact ⟨rfl, by simpa using hz⟩
      | succ n =>
        have := g3 n b (by simpa using hb)
        rw [show k + 1 + n = k + (n + 1) by omega] at this
        simpa using this

theorem sumO_sumN {A : Nat → Bool} {i : Nat} {w : Int} {l : List Ta} : ∀ (d k : Nat), k + d = l.length → FK.sumN l.length (fun k => if k ≠ i ∧ A k = true then up1 w (Tk l k) else 0) = FK.sumN k (fun k => if k ≠ i ∧ A k = true then up1 w (Tk l k) else 0) + sumO w (othF A i (l.drop k) k)
  | 0, k, h => by
    rw [show k = l.length by omega, List.drop_length]
    simp [othF, sumO]
  | d + 1, k, h => by
    obtain ⟨x, hx, hd⟩ := drop_at (l := l) (k := k) (by omega)
    rw [sumO_sumN d (k + 1) (by omega), othF_at hd]
    show FK.sumN k _ + (if k ≠ i ∧ A k = true then up1 w (Tk l k) else 0) + _ = _
    rw [Tk_at hx]
    by_cases hc : k ≠ i ∧ A k = true
    · rw [if_pos hc, if_pos hc, sumO]; omega
    · rw [if_neg hc, if_neg hc]; omega
end Go.Proofs.Ytkafihaajpifoaf
namespace Go.Proofs.Ytkafihaajpifoaf
open Go.ChangeShapes Go.WideShapes Go.ChangeAt Go.RowKit

/-- Does a task that comes as soon as it may come then? -/
abbrev hits (x : Ta) (n : Int) : Prop := x.o ≤ n ∧ (n - x.o) % x.t = 0
def hitsFrom (n : Int) : List Ta → Nat → List Co
  | [], _ => []
  | x :: r, i => if hits x n then ⟨(i : Int), n⟩ :: hitsFrom n r (i + 1) else hitsFrom n r (i + 1)
def comesUpto (l : List Ta) : Nat → List Co
  | 0 => []
  | u + 1 => comesUpto l u ++ hitsFrom (u : Int) l 0
def comesF (l : List Ta) (n : Int) : (Int × Int) × List Co := if (chkF l).1 ≠ 0 then (chkF l, []) else if n < 0 ∨ 20000 < n then ((3, 0), []) else if 4000 < (comesUpto l n.toNat).length then ((2, 0), []) else ((0, 0), comesUpto l n.toNat)

theorem hitsFrom_len (n : Int) : ∀ (r : List Ta) (i : Nat), (hitsFrom n r i).length ≤ r.length
  | [], _ => Nat.le_refl _
  | x :: r, i => by
    have := hitsFrom_len n r (i + 1)
    rw [hitsFrom]
    split
    · simp; omega
    · simp; omega

theorem comesUpto_mono (l : List Ta) : ∀ (u d : Nat), (comesUpto l u).length ≤ (comesUpto l (u + d)).length
  | _, 0 => Nat.le_refl _
  | u, d + 1 => by
    have := comesUpto_mono l u d
    rw [← Nat.add_assoc, comesUpto, List.length_append]
    omega

/- How many. -/
def cnt (x : Ta) (u : Int) : Int := if x.o < u then (u - x.o + x.t - 1) / x.t else 0
def cnts : List Ta → Int → Int
  | [], _ => 0
  | x :: r, u => cnt x u + cnts r u

theorem cnt_step {x : Ta} {u : Int} (ht : 1 ≤ x.t) : cnt x (u + 1) = cnt x u + if hits x u then 1 else 0 := by
  unfold cnt
  by_cases h1 : u < x.o
  · rw [if_neg (by omega), if_neg (by omega), if_neg (fun h : hits x u => by have := h.1; omega)]
    rfl
  · rw [if_pos (by omega)]
    by_cases h2 : x.o = u
    · subst h2
      rw [if_neg (by omega), if_pos (show hits x x.o from ⟨Int.le_refl _, by simp⟩), show x.o + 1 - x.o + x.t - 1 = x.t by omega, Int.ediv_self (by omega)]
      rfl
    · rw [if_pos (by omega)]
      obtain ⟨d, hd⟩ : ∃ d, d = u - x.o := ⟨_, rfl⟩
      have e1 : (u + 1 - x.o + x.t - 1) / x.t = d / x.t + 1 := by
        rw [show u + 1 - x.o + x.t - 1 = d + x.t by omega, Int.add_ediv_of_dvd_right (Int.dvd_refl _), Int.ediv_self (by omega)]
      have e2 : (u - x.o + x.t - 1) / x.t = (d - 1) / x.t + 1 := by
        rw [show u - x.o + x.t - 1 = (d - 1) + x.t by omega, Int.add_ediv_of_dvd_right (Int.dvd_refl _), Int.ediv_self (by omega)]
      rw [e1, e2]
      have hq := Int.emod_add_mul_ediv d x.t
      have hr0 := Int.emod_nonneg d (show x.t ≠ 0 by omega)
      have hr1 := Int.emod_lt_of_pos d (show 0 < x.t by omega)
      by_cases h3 : d % x.t = 0
      · rw [if_pos (show hits x u from ⟨by omega, by rw [← hd]; exact h3⟩)]
        have : (d - 1) / x.t = d / x.t - 1 := by
          refine ((Int.ediv_emod_unique (a := d - 1) (b := x.t) (r := x.t - 1) (q := d / x.t - 1) (by omega)).2 ⟨?_, by omega, by omega⟩).1
          rw [Int.mul_sub]
          omega
        omega
      · rw [if_neg (fun h : hits x u => h3 (by rw [hd]; exact h.2))]
        have : (d - 1) / x.t = d / x.t := by
          refine ((Int.ediv_emod_unique (a := d - 1) (b := x.t) (r := d % x.t - 1) (q := d / x.t) (by omega)).2 ⟨?_, by omega, by omega⟩).1
          omega
        omega

theorem cnts_step {u : Int} : ∀ (r : List Ta) (i : Nat), (∀ x ∈ r, stands x = true) → cnts r (u + 1) = cnts r u + ((hitsFrom u r i).length : Int)
  | [], _, _ => rfl
  | x :: r, i, h => by
    have ih := cnts_step (u := u) r (i + 1) (fun y hy => h y (by simp [hy]))
    have h1 := cnt_step (x := x) (u := u) (stands_t (h x (by simp))).1
    rw [cnts, cnts, ih, h1, hitsFrom]
    split
    · simp; omega
    · omega

theorem cnts_zero : ∀ (r : List Ta), (∀ x ∈ r, stands x = true) → cnts r 0 = 0
  | [], _ => rfl
  | x :: r, h => by
    have := stands_t (h x (by simp))
    rw [cnts, cnts_zero r (fun y hy => h y (by simp [hy])), cnt, if_neg (by omega)]
    rfl

theorem cnts_len {l : List Ta} (h : ∀ x ∈ l, stands x = true) : ∀ u : Nat, cnts l (u : Int) = ((comesUpto l u).length : Int)
  | 0 => by rw [show ((0 : Nat) : Int) = 0 from rfl, cnts_zero l h]; rfl
  | u + 1 => by
    have := cnts_len h u
    rw [show ((u + 1 : Nat) : Int) = (u : Int) + 1 by omega, cnts_step l 0 h, this, comesUpto, List.length_append]
    omega

/- They may come so. -/
def Rel (c' c : Co) : Prop := c'.a < c.a ∨ (c'.a = c.a ∧ c'.k < c.k)
def Good (l : List Ta) (c : Co) : Prop := 0 ≤ c.k ∧ c.k < (l.length : Int) ∧ 0 ≤ c.a ∧ c.a ≤ 20000 ∧ hits (l.getD c.k.toNat ta0) c.a

theorem leg_good {l : List Ta} (hl : ∀ x ∈ l, stands x = true) : ∀ (r past : List Co) (i : Nat), (∀ c ∈ r, Good l c) → (∀ c ∈ past, Good l c) → (∀ c' ∈ past, ∀ c ∈ r, Rel c' c) → r.Pairwise Rel → legFrom l past r i = (0, 0)
  | [], _, _, _, _, _, _ => rfl
  | c :: r, past, i, hr, hp, hc, hpw => by
    obtain ⟨g1, g2, g3, g4, g5⟩ := hr c (by simp)
    have h0 : legOne l past c = 0 := by
      unfold legOne
      rw [if_neg (by omega), if_neg (by omega), if_neg]
      refine not_or.2 ⟨?_, ?_⟩
      · cases past with
        | nil => simp [nowOf]; omega
        | cons c' p =>
          have := hc c' (by simp) c (by simp)
          unfold Rel at this
          simp only [nowOf]
          omega
      · unfold soonOf
        cases hf : lastOf past c.k with
        | none => dsimp only; omega
        | some c' =>
          have hm : c' ∈ past := List.mem_of_find?_eq_some hf
          have hk : c'.k = c.k := by have := List.find?_some hf; simpa using this
          have hR := hc c' hm c (by simp)
          obtain ⟨-, -, -, -, q5⟩ := hp c' hm
          rw [hk] at q5
          have hx : l.getD c.k.toNat ta0 ∈ l := by
            have : c.k.toNat < l.length := by omega
            rw [List.getD_eq_getElem?_getD, List.getElem?_eq_getElem this]
            exact List.getElem_mem this
          have ht := stands_t (hl _ hx)
          generalize l.getD c.k.toNat ta0 = x at *
          unfold Rel at hR
          obtain ⟨-, m1⟩ := g5
          obtain ⟨-, m2⟩ := q5
          have d1 : x.t ∣ c.a - x.o := Int.dvd_of_emod_eq_zero m1
          have d2 : x.t ∣ c'.a - x.o := Int.dvd_of_emod_eq_zero m2
          have d3 : x.t ∣ c.a - c'.a := by
            have := Int.dvd_sub d1 d2
            rwa [show c.a - x.o - (c'.a - x.o) = c.a - c'.a by omega] at this
          have := Int.le_of_dvd (by omega) d3
          dsimp only
          omega
    rw [legFrom, if_pos h0]
    rw [List.pairwise_cons] at hpw
    refine leg_good hl r (c :: past) (i + 1) (fun z hz => hr z (by simp [hz])) ?_ ?_ hpw.2
    · intro z hz
      rcases List.mem_cons.1 hz with rfl | hz
      · exact hr _ (by simp)
      · exact hp z hz
    · intro z hz y hy
      rcases List.mem_cons.1 hz with rfl | hz
      · exact hpw.1 y hy
      · exact hc z hz y (by simp [hy])

theorem hits_mem {n : Int} : ∀ (r : List Ta) (i : Nat) (c : Co), c ∈ hitsFrom n r i → c.a = n ∧ ∃ (j : Nat) (x : Ta), r[j]? = some x ∧ c.k = (i : Int) + j ∧ hits x n
  | [], _, _, h => by simp [hitsFrom] at h
  | x :: r, i, c, h => by
    rw [hitsFrom] at h
    have key : c ∈ hitsFrom n r (i + 1) → c.a = n ∧ ∃ (j : Nat) (y : Ta), (x :: r)[j]? = some y ∧ c.k = (i : Int) + j ∧ hits y n := fun h => by
      obtain ⟨h1, j, y, h2, h3, h4⟩ := hits_mem r (i + 1) c h
      exact ⟨h1, j + 1, y, by simpa using h2, by omega, h4⟩
    split at h
    · rename_i hx
      rcases List.mem_cons.1 h with rfl | h
      · exact ⟨rfl, 0, x, rfl, by simp, hx⟩
      · exact key h
    · exact key h

theorem hits_pair {n : Int} : ∀ (r : List Ta) (i : Nat), (hitsFrom n r i).Pairwise Rel
  | [], _ => List.Pairwise.nil
  | x :: r, i => by
    rw [hitsFrom]
    split
    · refine List.Pairwise.cons (fun c hc => ?_) (hits_pair r (i + 1))
      obtain ⟨h1, j, y, -, h3, -⟩ := hits_mem r (i + 1) c hc
      exact .inr ⟨h1.symm, by dsimp only; omega⟩
    · exact hits_pair r (i + 1)

theorem comes_mem {l : List Ta} : ∀ (u : Nat) (c : Co), c ∈ comesUpto l u → c.a < (u : Int) ∧ 0 ≤ c.a ∧ 0 ≤ c.k ∧ c.k < (l.length : Int) ∧ hits (l.getD c.k.toNat ta0) c.a
  | 0, c, h => by simp [comesUpto] at h
  | u + 1, c, h => by
    rw [comesUpto, List.mem_append] at h
    rcases h with h | h
    · have := comes_mem u c h
      refine ⟨by omega, this.2⟩
    · obtain ⟨h1, j, x, h2, h3, h4⟩ := hits_mem l 0 c h
      have hj : j < l.length := (List.getElem?_eq_some_iff.1 h2).1
      refine ⟨by omega, by omega, by omega, by omega, ?_⟩
      rw [h1, show c.k.toNat = j by omega, List.getD_eq_getElem?_getD, h2]
      exact h4

theorem comes_pair {l : List Ta} : ∀ u : Nat, (comesUpto l u).Pairwise Rel
  | 0 => List.Pairwise.nil
  | u + 1 => by
    rw [comesUpto, List.pairwise_append]
    refine ⟨comes_pair u, hits_pair l 0, fun a ha b hb => ?_⟩
    have h1 := (comes_mem u a ha).1
    have h2 := (hits_mem l 0 b hb).1
    exact .inl (by omega)

theorem comes_legal {l : List Ta} {n : Int} {cs : List Co} (h : comesF l n = ((0, 0), cs)) (h0 : (chkF l).1 = 0) : legF l cs = (0, 0) := by
  unfold comesF at h
  rw [if_neg (by simpa using h0)] at h
  by_cases h1 : n < 0 ∨ 20000 < n
  · rw [if_pos h1] at h; simp at h
  · rw [if_neg h1] at h
    by_cases h2 : 4000 < (comesUpto l n.toNat).length
    · rw [if_pos h2] at h; simp at h
    · rw [if_neg h2] at h
      simp only [Prod.mk.injEq, true_and] at h
      subst h
      unfold legF
      rw [if_neg (by simpa using h0), if_neg h2]
      refine leg_good (chkF_ok h0).2.2 _ _ _ (fun c hc => ?_) (fun c hc => by simp at hc) (fun c hc => by simp at hc) (comes_pair _)
      have := comes_mem _ c hc
      exact ⟨this.2.2.1, this.2.2.2.1, this.2.1, by omega, this.2.2.2.2⟩
end Go.Proofs.Ytkafihaajpifoaf
namespace Go.Proofs.Ytkafihaajpifoaf
open Go.ChangeShapes Go.WideShapes Go.ChangeAt Go.RowKit

/- Sums over lists. -/
def sumL {α : Type} (F : α → Int) : List α → Int
  | [] => 0
  | x :: r => F x + sumL F r

theorem sumL_append {α : Type} (F : α → Int) : ∀ a b : List α, sumL F (a ++ b) = sumL F a + sumL F b
  | [], b => by simp [sumL]
  | x :: r, b => by rw [List.cons_append, sumL, sumL, sumL_append F r b]; omega

theorem sumN_front : ∀ (n : Nat) (f : Nat → Int), FK.sumN (n + 1) f = f 0 + FK.sumN n (fun i => f (i + 1))
  | 0, f => by show (0 : Int) + f 0 = f 0 + 0; omega
  | n + 1, f => by
    show FK.sumN (n + 1) f + f (n + 1) = f 0 + (FK.sumN n (fun i => f (i + 1)) + f (n + 1))
    rw [sumN_front n f]
    omega

theorem sumL_sumN {α : Type} (F : α → Int) (d : α) : ∀ l : List α, FK.sumN l.length (fun i => F (l.getD i d)) = sumL F l
  | [] => rfl
  | x :: r => by
    rw [List.length_cons, sumN_front, sumL, ← sumL_sumN F d r]
    rfl

/-- How often each comes. -/
theorem comes_weigh {l : List Ta} (hl : ∀ x ∈ l, stands x = true) (g : Nat → Int) : ∀ u : Nat, sumL (fun c : Co => g c.k.toNat) (comesUpto l u) = FK.sumN l.length (fun k => cnt (Tk l k) (u : Int) * g k)
  | 0 => by
    show (0 : Int) = _
    rw [FK.sumN_eq l.length (g := fun _ => 0) (fun k hk => by
      have e : cnt (Tk l k) ((0 : Nat) : Int) = 0 := by
        obtain ⟨-, -, -, -, -, -, -, -, o0, -⟩ := stands_t (stands_mem hl hk)
        unfold cnt
        rw [if_neg (by omega)]
      rw [e, Int.zero_mul])]
    have : ∀ n, FK.sumN n (fun _ => 0) = 0 := fun n => by
      induction n with
      | zero => rfl
      | succ n ih => unfold FK.sumN; rw [ih]; rfl
    rw [this]
  | u + 1 => by
    have hh : ∀ (r : List Ta) (i : Nat), sumL (fun c : Co => g c.k.toNat) (hitsFrom (u : Int) r i) = FK.sumN r.length (fun k => if hits (r.getD k ta0) (u : Int) then g (i + k) else 0) := by
      intro r
      induction r with
      | nil => intro i; rfl
      | cons x r ih =>
        intro i
        rw [List.length_cons, sumN_front, hitsFrom]
        have e2 : FK.sumN r.length (fun k => if hits ((x :: r).getD (k + 1) ta0) (u : Int) then g (i + (k + 1)) else 0) = FK.sumN r.length (fun k => if hits (r.getD k ta0) (u : Int) then g (i + 1 + k) else 0) := FK.sumN_eq _ (fun k _ => by
          rw [show i + (k + 1) = i + 1 + k by omega]; rfl)
        rw [e2, ← ih (i + 1)]
        by_cases hx : hits x (u : Int)
        · rw [if_pos hx, sumL]
          have e3 : (if hits ((x :: r).getD 0 ta0) (u : Int) then g (i + 0) else 0) = g i := if_pos hx
          rw [e3]
          simp
        · rw [if_neg hx]
          have e3 : (if hits ((x :: r).getD 0 ta0) (u : Int) then g (i + 0) else 0) = 0 := if_neg hx
          rw [e3]
          omega
    rw [comesUpto, sumL_append, comes_weigh hl g u, hh l 0, ← FK.sumN_add]
    refine FK.sumN_eq _ (fun k hk => ?_)
    have ht := (stands_t (stands_mem hl hk)).1
    have hs := cnt_step (x := Tk l k) (u := (u : Int)) ht
    rw [show (((u + 1 : Nat)) : Int) = (u : Int) + 1 by omega, hs, Int.add_mul, Nat.zero_add]
    show _ + (if hits (Tk l k) (u : Int) then g k else 0) = _
    by_cases hx : hits (Tk l k) (u : Int)
    · rw [if_pos hx, if_pos hx]; omega
    · rw [if_neg hx, if_neg hx]; omega

theorem comes_split {l : List Ta} (u : Nat) : ∀ d : Nat, ∃ r, comesUpto l (u + d) = comesUpto l u ++ r ∧ ∀ c ∈ r, (u : Int) ≤ c.a
  | 0 => ⟨[], by simp, fun c hc => by simp at hc⟩
  | d + 1 => by
    obtain ⟨r, h1, h2⟩ := comes_split (l := l) u d
    refine ⟨r ++ hitsFrom ((u + d : Nat) : Int) l 0, ?_, fun c hc => ?_⟩
    · rw [← Nat.add_assoc, comesUpto, h1, List.append_assoc]
    · rcases List.mem_append.1 hc with hc | hc
      · exact h2 c hc
      · have := (hits_mem l 0 c hc).1
        omega

theorem sumL_zero {α : Type} (F : α → Int) : ∀ l : List α, (∀ x ∈ l, F x = 0) → sumL F l = 0
  | [], _ => rfl
  | x :: r, h => by rw [sumL, h x List.mem_cons_self, sumL_zero F r (fun y hy => h y (List.mem_cons_of_mem _ hy))]; rfl
theorem sumL_eq {α : Type} {F G : α → Int} : ∀ l : List α, (∀ x ∈ l, F x = G x) → sumL F l = sumL G l
  | [], _ => rfl
  | x :: r, h => by rw [sumL, sumL, h x List.mem_cons_self, sumL_eq r (fun y hy => h y (List.mem_cons_of_mem _ hy))]

/-- What comes ahead of u, weighed. -/
theorem comes_ahead {l : List Ta} (hl : ∀ x ∈ l, stands x = true) (g : Nat → Int) {u E : Nat} (hu : u ≤ E) : sumL (fun c : Co => if c.a < (u : Int) then g c.k.toNat else 0) (comesUpto l E) = FK.sumN l.length (fun k => cnt (Tk l k) (u : Int) * g k) := by
  obtain ⟨r, h1, h2⟩ := comes_split (l := l) u (E - u)
  rw [show u + (E - u) = E by omega] at h1
  rw [h1, sumL_append, sumL_zero _ r (fun c hc => if_neg (by have := h2 c hc; omega)), Int.add_zero, ← comes_weigh hl g u]
  exact sumL_eq _ (fun c hc => if_pos (comes_mem u c hc).1)

/-- At one time: a job that is done just then, while those ahead of it were there, and nobody else. -/
theorem exact_done {n N : Nat} {r x : Nat → Int} {H : Nat → Prop} [DecidablePred H] {L : Nat → Nat → Int} (h : FK.Run n N r x H L) {i e : Nat} (hi : i < n) (hH : H i) (h0 : r i = 0) (he : e ≤ N) (hpos : ∀ t, t < e → 0 < L t i)
    (hdone : ∀ j, j < n → H j → r j < (e : Int) → L e j = 0) : FK.sumN n (fun j => if H j ∧ r j < (e : Int) then x j else 0) = (e : Int) := by
  have key : ∀ d, d ≤ e → FK.sumN n (fun j => if H j ∧ r j < (e : Int) then L d j else 0) = FK.sumN n (fun j => if H j ∧ r j < (e : Int) then x j else 0) - (d : Int) := by
    intro d
    induction d with
    | zero =>
      intro _
      rw [FK.sumN_eq n (g := fun j => if H j ∧ r j < (e : Int) then x j else 0) (fun j hj => by
        by_cases hc : H j ∧ r j < (e : Int)
        · rw [if_pos hc, if_pos hc, h.init j hj]
        · rw [if_neg hc, if_neg hc])]
      omega
    | succ d ih =>
      intro hd
      have hnone : ¬ ∀ j, j < n → H j → r j ≤ (d : Int) → L d j = 0 := fun hall => by
        have := hall i hi hH (by omega)
        have := hpos d (by omega)
        omega
      rcases h.step d (by omega) with ⟨-, h2⟩ | ⟨k, hk, hrk, hp, h3, h4, h5⟩
      · exact absurd h2 hnone
      · rcases h5 with h5 | h5
        · have hin : H k ∧ r k < (e : Int) := ⟨h5, by omega⟩
          rw [FK.sumN_one n (f := fun j => if H j ∧ r j < (e : Int) then L d j else 0) k hk (by rw [if_pos hin, if_pos hin, h3]) (fun j hj hne => by rw [h4 j hj hne]), ih (by omega)]
          omega
        · exact absurd h5 hnone
  have h1 := key e (Nat.le_refl e)
  have h2 : FK.sumN n (fun j => if H j ∧ r j < (e : Int) then L e j else 0) = 0 := by
    rw [FK.sumN_eq n (g := fun _ => 0) (fun j hj => by
      by_cases hc : H j ∧ r j < (e : Int)
      · rw [if_pos hc, hdone j hj hc.1 hc.2]
      · rw [if_neg hc])]
    have : ∀ m, FK.sumN m (fun _ => 0) = 0 := fun m => by
      induction m with
      | zero => rfl
      | succ m ih => unfold FK.sumN; rw [ih]; rfl
    exact this n
  omega
end Go.Proofs.Ytkafihaajpifoaf
namespace Go.Proofs.Ytkafihaajpifoaf
open Go.ChangeShapes Go.WideShapes Go.ChangeAt Go.RowKit

theorem wOf_zero {ask : Int → Int} {jj d : Int} (hj : 0 ≤ jj) (h : wOf ask jj d = 0) : ∀ w, 1 ≤ w → w + jj ≤ d → ask w ≠ w := by
  intro w h1 h2 h3
  unfold wOf at h
  cases e : (List.range (d + 1).toNat).find? (isFix ask jj d) with
  | none =>
    rw [List.find?_range_eq_none] at e
    have := e w.toNat (by omega)
    rw [Bool.not_eq_true', Bool.eq_false_iff] at this
    refine this (isFix_iff.2 ⟨by omega, by omega, ?_⟩)
    rw [show ((w.toNat : Nat) : Int) = w by omega]
    exact h3
  | some n =>
    rw [e] at h
    rw [List.find?_range_eq_some] at e
    have := (isFix_iff.1 e.1).1
    have h' : (n : Int) + jj = 0 := h
    omega

/-- When a job is done, and that it ran just ahead of that. -/
theorem ends_first {js : List Jb} {N : Nat} {f : Nat → S8.St} (hok : ∀ x ∈ js, S8.okJ x) (hp : ∀ u, u ≤ N → S8.Plays js 1 true u (f u)) (hs : ∀ u, u < N → ∃ b, S8.Pick js 1 true u (f u) b ∧ f (u + 1) = (f u).after u b) :
    ∀ u, u ≤ N → ∀ i, i < js.length → (0 < S8.L (f u).left i ∧ (f u).ends[i]? = some (-1)) ∨
      ∃ e : Nat, 1 ≤ e ∧ e ≤ u ∧ (f u).ends[i]? = some (e : Int) ∧ S8.L (f e).left i = 0 ∧ (∀ t, t < e → 0 < S8.L (f t).left i) ∧ (∀ j, j < js.length → (S8.J js j).a ≤ ((e - 1 : Nat) : Int) → 0 < S8.L (f (e - 1)).left j → j ≠ i → S8.lexJ 1 js i j) ∧ ∀ j, j ≠ i → S8.L (f e).left j = S8.L (f (e - 1)).left j := by
  have R := run_of hok hp hs 0
  intro u
  induction u with
  | zero =>
    intro _ i hi
    refine .inl ⟨?_, ?_⟩
    · have e : js[i]? = some (S8.J js i) := by unfold S8.J; rw [List.getD_eq_getElem?_getD]; simp [hi]
      have h2 := (hok _ (List.mem_of_getElem? e)).2.2.1
      have h3 : S8.L (f 0).left i = (S8.J js i).c := R.init i hi
      omega
    · have h0 : f 0 = S8.St.init js := hp 0 (Nat.zero_le _)
      rw [h0]
      unfold S8.St.init
      simp [hi]
  | succ u ih =>
    intro hu i hi
    obtain ⟨b, hb, he⟩ := hs u (by omega)
    have hO := S8.plays_ok hok u _ (hp u (by omega))
    rcases ih (by omega) i hi with ⟨hpos, hend⟩ | ⟨e, e1, e2, e3, e4, e5, e6, e7⟩
    · rcases hb with ⟨h, -⟩ | ⟨-, hb⟩
      · cases h
      rcases hb with ⟨rfl, hb⟩ | ⟨k, rfl, hk, h1, h2, h3⟩
      · refine .inl ⟨?_, ?_⟩
        · rw [he]; exact hpos
        · rw [he]; exact hend
      · have hL : ∀ j, S8.L (f (u + 1)).left j = if j = k then S8.L (f u).left k - 1 else S8.L (f u).left j := fun j => by
          rw [he, after_some]
          exact S8.L_set (by rw [hO.left]; exact hk)
        by_cases hik : i = k
        · subst hik
          by_cases hz : S8.L (f u).left i - 1 = 0
          · refine .inr ⟨u + 1, by omega, Nat.le_refl _, ?_, ?_, ?_, ?_, ?_⟩
            · rw [he, after_some]
              show (if S8.L (f u).left i - 1 = 0 then (f u).ends.set i ((u : Int) + 1) else (f u).ends)[i]? = _
              rw [if_pos hz, List.getElem?_set_self (by rw [hO.ends]; exact hi)]
              rfl
            · rw [hL, if_pos rfl]; exact hz
            · intro t ht
              apply Classical.byContradiction
              intro hc
              have hn := R.nneg t i (by omega) hi
              have hz' : S8.L (f t).left i = 0 := by
                have : 0 ≤ S8.L (f t).left i := hn
                omega
              have := R.zero (t := t) (u := u) hi hz' (by omega) (by omega)
              have h' : S8.L (f u).left i = 0 := this
              omega
            · rw [Nat.add_sub_cancel]
              exact fun j hj ha hl hne => h3 j hj ha hl hne
            · intro j hj
              rw [Nat.add_sub_cancel, hL, if_neg hj]
          · refine .inl ⟨?_, ?_⟩
            · rw [hL, if_pos rfl]; omega
            · rw [he, after_some]
              show (if S8.L (f u).left i - 1 = 0 then (f u).ends.set i ((u : Int) + 1) else (f u).ends)[i]? = _
              rw [if_neg hz]
              exact hend
        · refine .inl ⟨?_, ?_⟩
          · rw [hL, if_neg hik]; exact hpos
          · rw [he, after_some]
            show (if S8.L (f u).left k - 1 = 0 then (f u).ends.set k ((u : Int) + 1) else (f u).ends)[i]? = _
            split
            · rw [List.getElem?_set_ne (fun e => hik e.symm)]; exact hend
            · exact hend
    · refine .inr ⟨e, e1, by omega, ?_, e4, e5, e6, e7⟩
      have hz : S8.L (f u).left i = 0 := R.zero (t := e) (u := u) hi e4 e2 (by omega)
      rw [he]
      rcases S8.pick_rng hO hb with rfl | ⟨k, rfl, hk, hpos⟩
      · exact e3
      · rw [after_some]
        have hne : k ≠ i := fun e => by subst e; omega
        show (if S8.L (f u).left k - 1 = 0 then (f u).ends.set k ((u : Int) + 1) else (f u).ends)[i]? = some (e : Int)
        split
        · rw [List.getElem?_set_ne hne]; exact e3
        · exact e3

/-- What comes of all at 0. -/
structure Nought (l : List Ta) (E : Nat) (cs : List Co) (js : List Jb) : Prop where
  chk : (chkX l).1 = 0
  flat : ∀ x ∈ l, x.j = 0 ∧ x.o = 0
  apart : ∀ i j, i < l.length → j < l.length → (Tk l i).p = (Tk l j).p → i = j
  due : ∀ x ∈ l, x.d ≤ (E : Int)
  all : cs = comesUpto l E
  len : js.length = cs.length
  leg : (legF l cs).1 = 0
  job : ∀ (n : Nat) (c : Co), cs[n]? = some c → S8.J js n = ⟨c.k, c.a, (Tk l c.k.toNat).c, c.a + (Tk l c.k.toNat).d, (Tk l c.k.toNat).p⟩
  first : ∀ i, i < l.length → cs[i]? = some ⟨(i : Int), 0⟩

theorem Nought.sum {l : List Ta} {E : Nat} {cs : List Co} {js : List Jb} (h : Nought l E cs js) {i e : Nat} (hi : i < l.length) (h1 : 1 ≤ e) (he : (e : Int) ≤ (Tk l i).d) :
    FK.sumN js.length (fun j => if (Tk l i).p ≤ (S8.J js j).p ∧ (S8.J js j).a < (e : Int) then (S8.J js j).c else 0) = askF ((Tk l i).c + 0) (othF (aheadP l i) i l 0) (e : Int) := by
  obtain ⟨-, hDT, -, h8, hst, -⟩ := chkX_ok h.chk
  have heE : e ≤ E := by have := h.due _ (Tk_mem hi); omega
  have s1 : FK.sumN js.length (fun j => if (Tk l i).p ≤ (S8.J js j).p ∧ (S8.J js j).a < (e : Int) then (S8.J js j).c else 0) = FK.sumN cs.length (fun j => (fun c : Co => if c.a < (e : Int) then (if (Tk l i).p ≤ (Tk l c.k.toNat).p then (Tk l c.k.toNat).c else 0) else 0) (cs.getD j ⟨0, 0⟩)) := by
    rw [h.len]
    refine FK.sumN_eq _ (fun j hj => ?_)
    have hc : cs[j]? = some (cs.getD j ⟨0, 0⟩) := by rw [List.getD_eq_getElem?_getD]; simp [hj]
    rw [h.job j _ hc]
    dsimp only
    by_cases q1 : (cs.getD j ⟨0, 0⟩).a < (e : Int)
    · by_cases q2 : (Tk l i).p ≤ (Tk l (cs.getD j ⟨0, 0⟩).k.toNat).p
      · rw [if_pos ⟨q2, q1⟩, if_pos q1, if_pos q2]
      · rw [if_neg (fun q => q2 q.1), if_pos q1, if_neg q2]
    · rw [if_neg (fun q => q1 q.2), if_neg q1]
  rw [s1, sumL_sumN (fun c : Co => if c.a < (e : Int) then (if (Tk l i).p ≤ (Tk l c.k.toNat).p then (Tk l c.k.toNat).c else 0) else 0) ⟨0, 0⟩ cs, h.all, comes_ahead hst (fun k => if (Tk l i).p ≤ (Tk l k).p then (Tk l k).c else 0) heE]
  have h2 := sumO_sumN (A := aheadP l i) (i := i) (w := (e : Int)) (l := l) l.length 0 (by omega)
  rw [List.drop_zero] at h2
  unfold askF
  have h3 : sumO (e : Int) (othF (aheadP l i) i l 0) = FK.sumN l.length (fun k => if k ≠ i ∧ aheadP l i k = true then up1 (e : Int) (Tk l k) else 0) := by
    rw [h2]
    show _ = (0 : Int) + _
    omega
  rw [h3]
  have h4 : (Tk l i).c + 0 + FK.sumN l.length (fun k => if k ≠ i ∧ aheadP l i k = true then up1 (e : Int) (Tk l k) else 0) = FK.sumN l.length (fun k => (if k = i then (Tk l i).c else 0) + (if k ≠ i ∧ aheadP l i k = true then up1 (e : Int) (Tk l k) else 0)) := by
    rw [FK.sumN_add, FK.sumN_pick l.length i (Tk l i).c hi]
    omega
  rw [h4]
  refine FK.sumN_eq _ (fun k hk => ?_)
  obtain ⟨g1, g2, g3, g4, g5, g6, g7, g8, -, -⟩ := stands_t (stands_mem hst hk)
  obtain ⟨j0, o0⟩ := h.flat _ (Tk_mem hk)
  have ec : cnt (Tk l k) (e : Int) = ((e : Int) + (Tk l k).j + (Tk l k).t - 1) / (Tk l k).t := by
    unfold cnt
    rw [o0, j0, if_pos (by omega)]
    congr 1
    try omega
  rw [ec]
  by_cases hki : k = i
  · subst hki
    have e1 : ((e : Int) + (Tk l k).j + (Tk l k).t - 1) / (Tk l k).t = 1 := by
      have hd := hDT _ (Tk_mem hk)
      rw [j0, Int.ediv_eq_iff_of_pos (by omega)]
      omega
    rw [e1, if_pos (Int.le_refl _), if_pos rfl, if_neg (by simp)]
    omega
  · by_cases hp : (Tk l i).p ≤ (Tk l k).p
    · rw [if_pos hp, if_neg hki, if_pos ⟨hki, by unfold aheadP; simp [hp]⟩]
      unfold up1
      omega
    · rw [if_neg hp, if_neg hki, if_neg (by unfold aheadP; simp [hp])]
      omega

/-- The critical instant, just so. -/
theorem exact_pure {l : List Ta} {E : Nat} {cs : List Co} {js : List Jb} {s : S8.St} (h : Nought l E cs js) (hok : ∀ x ∈ js, S8.okJ x) (hP : S8.Plays js 1 true E s) :
    ∀ i, i < l.length → ∃ e, s.ends[i]? = some e ∧ (respR l i 0 ≠ 0 → e = respR l i 0) ∧ (respR l i 0 = 0 → ¬ (0 ≤ e ∧ e ≤ (Tk l i).d)) := by
  obtain ⟨-, hDT, -, h8, hst, -⟩ := chkX_ok h.chk
  have hlk := legF_ok h.leg
  obtain ⟨f, rfl, hp, hs⟩ := plays_seq E s hP
  intro i hi
  have hfi := h.first i hi
  have hil : i < js.length := by rw [h.len]; exact (List.getElem?_eq_some_iff.1 hfi).1
  have hji := h.job i _ hfi
  have ei : ((i : Nat) : Int).toNat = i := Int.toNat_natCast i
  rw [show (⟨(i : Int), 0⟩ : Co).k.toNat = i from ei] at hji
  have hji' : S8.J js i = ⟨(i : Int), 0, (Tk l i).c, 0 + (Tk l i).d, (Tk l i).p⟩ := hji
  have R := run_of hok hp hs (Tk l i).p
  obtain ⟨j0, o0⟩ := h.flat _ (Tk_mem hi)
  have hdE := h.due _ (Tk_mem hi)
  have hdt := hDT _ (Tk_mem hi)
  have hC : ∀ n, n < js.length → ∃ c, cs[n]? = some c := fun n hn => ⟨cs[n]'(by rw [← h.len]; exact hn), by simp [show n < cs.length by rw [← h.len]; exact hn]⟩
  -- a time that is a fix point if it is done then
  have hfix : ∀ e : Nat, 1 ≤ e → (e : Int) ≤ (Tk l i).d → S8.L (f e).left i = 0 → (∀ t, t < e → 0 < S8.L (f t).left i) → (∀ j, j < js.length → (S8.J js j).a ≤ ((e - 1 : Nat) : Int) → 0 < S8.L (f (e - 1)).left j → j ≠ i → S8.lexJ 1 js i j) → (∀ j, j ≠ i → S8.L (f e).left j = S8.L (f (e - 1)).left j) → askF ((Tk l i).c + 0) (othF (aheadP l i) i l 0) (e : Int) = (e : Int) := by
    intro e h1 h2 h3 h4 h5 h6
    rw [← h.sum hi h1 h2]
    refine exact_done R hil (by show (Tk l i).p ≤ (S8.J js i).p; rw [hji']; exact Int.le_refl _) (by show (S8.J js i).a = 0; rw [hji']) (by omega) h4 (fun j hj hH hr => ?_)
    have hH' : (Tk l i).p ≤ (S8.J js j).p := hH
    have hr' : (S8.J js j).a < (e : Int) := hr
    show S8.L (f e).left j = 0
    by_cases hji2 : j = i
    · subst hji2; exact h3
    · rw [h6 j hji2]
      apply Classical.byContradiction
      intro hne
      have hn := R.nneg (e - 1) j (by omega) hj
      have hpos : 0 < S8.L (f (e - 1)).left j := by
        have : 0 ≤ S8.L (f (e - 1)).left j := hn
        omega
      have hlex := h5 j hj (by omega) hpos hji2
      unfold S8.lexJ S8.lex S8.key at hlex
      simp only [if_true] at hlex
      rw [hji'] at hlex
      dsimp only at hlex
      have hpe : (S8.J js j).p = (Tk l i).p := by omega
      obtain ⟨c, hc⟩ := hC j hj
      have hjj := h.job j c hc
      have hck := hlk.2.2 c (List.mem_of_getElem? hc)
      have hpp : (Tk l c.k.toNat).p = (Tk l i).p := by rw [← hpe, hjj]
      have hki := h.apart c.k.toNat i (by omega) hi hpp
      have hra : (S8.J js j).a = c.a := by rw [hjj]
      rcases Nat.lt_or_gt_of_ne hji2 with hlt | hgt
      · have := apart_of h.leg j i c ⟨(i : Int), 0⟩ hlt hc hfi (by show c.k = (i : Int); omega)
        have ht := (stands_t (stands_mem hst hi)).1
        have e2 : (l.getD (⟨(i : Int), 0⟩ : Co).k.toNat ta0).t = (Tk l i).t := by rw [show (⟨(i : Int), 0⟩ : Co).k.toNat = i from ei]; rfl
        rw [e2] at this
        have h0 : (⟨(i : Int), 0⟩ : Co).a = 0 := rfl
        omega
      · have := apart_of h.leg i j ⟨(i : Int), 0⟩ c hgt hfi hc (by show (i : Int) = c.k; omega)
        have e2 : (l.getD c.k.toNat ta0).t = (Tk l i).t := by rw [hki]; rfl
        rw [e2] at this
        have h0 : (⟨(i : Int), 0⟩ : Co).a = 0 := rfl
        omega
  -- done where there is a fix point
  have hdone : ∀ w : Nat, 1 ≤ w → (w : Int) ≤ (Tk l i).d → askF ((Tk l i).c + 0) (othF (aheadP l i) i l 0) (w : Int) = (w : Int) → S8.L (f w).left i = 0 := by
    intro w h1 h2 h3
    have hb := R.busy (t0 := 0) (w := w) (fun j hj _ hr => by
      have h0 : 0 ≤ (S8.J js j).a := R.r0 j hj
      have hr' : (S8.J js j).a < ((0 : Nat) : Int) := hr
      omega) h1 (by omega) (by
      have hsum := h.sum hi h1 h2
      rw [h3] at hsum
      refine Int.le_of_eq (Eq.trans ?_ hsum)
      refine FK.sumN_eq _ (fun j hj => ?_)
      have h0 := R.r0 j hj
      have h0' : 0 ≤ (S8.J js j).a := h0
      by_cases hc : (Tk l i).p ≤ (S8.J js j).p ∧ (S8.J js j).a < (w : Int)
      · rw [if_pos hc, if_pos ⟨hc.1, by omega, by have := hc.2; omega⟩]
      · rw [if_neg hc, if_neg (fun q => hc ⟨q.1, by have := q.2.2; omega⟩)])
    obtain ⟨q, q1, q2, q3⟩ := hb
    have := q3 i hil (by show (Tk l i).p ≤ (S8.J js i).p; rw [hji']; exact Int.le_refl _) (by show (S8.J js i).a < (q : Int); rw [hji']; show (0 : Int) < (q : Int); omega)
    exact R.zero hil this (by omega) (by omega)
  rcases ends_first hok hp hs E (Nat.le_refl E) i hil with ⟨hpos, hend⟩ | ⟨e, e1, e2, e3, e4, e5, e6, e7⟩
  · refine ⟨-1, hend, fun hr => ?_, fun _ hc => by omega⟩
    exfalso
    obtain ⟨w, w1, w2, w3, -, w5⟩ := wOf_some (show wOf _ _ _ ≠ 0 from hr)
    obtain ⟨wn, rfl⟩ : ∃ n : Nat, w = (n : Int) := ⟨w.toNat, by omega⟩
    have hz := hdone wn (by omega) (by omega) w3
    have := R.zero (t := wn) (u := E) hil hz (by omega) (Nat.le_refl _)
    have h' : S8.L (f E).left i = 0 := this
    omega
  · refine ⟨(e : Int), e3, fun hr => ?_, fun hr hc => ?_⟩
    · obtain ⟨w, w1, w2, w3, w4, w5⟩ := wOf_some (show wOf _ _ _ ≠ 0 from hr)
      obtain ⟨wn, rfl⟩ : ∃ n : Nat, w = (n : Int) := ⟨w.toNat, by omega⟩
      have w5' : respR l i 0 = (wn : Int) + (Tk l i).j := w5
      have hz := hdone wn (by omega) (by omega) w3
      have hew : e ≤ wn := by
        apply Classical.byContradiction
        intro hc
        have := e5 wn (by omega)
        omega
      have hfx := hfix e e1 (by omega) e4 e5 e6 e7
      have : ¬ (e : Int) < (wn : Int) := fun hlt => w4 (e : Int) (by omega) hlt hfx
      omega
    · have hfx := hfix e e1 hc.2 e4 e5 e6 e7
      exact wOf_zero (show 0 ≤ (Tk l i).j by omega) (show wOf _ _ _ = 0 from hr) (e : Int) (by omega) (by omega) hfx
end Go.Proofs.Ytkafihaajpifoaf
namespace Go.Proofs.Ytkafihaajpifoaf
open Go.ChangeShapes Go.WideShapes Go.ChangeAt Go.RowKit

def jobOf (l : List Ta) (c : Co) : Jb := ⟨c.k, c.a + 0, (Tk l c.k.toNat).c, c.a + (Tk l c.k.toNat).d, (Tk l c.k.toNat).p⟩

theorem jobs_all {l : List Ta} (hl : ∀ x ∈ l, stands x = true) : ∀ (cs : List Co) (acc : List Jb) (i : Nat), (∀ c ∈ cs, 0 ≤ c.k ∧ c.k < (l.length : Int)) → jobsFrom l acc cs (List.replicate cs.length 0) (cs.map (fun c => (Tk l c.k.toNat).c)) i = ((0, 0), acc ++ cs.map (jobOf l))
  | [], acc, i, _ => by rw [jobsFrom_end]; simp
  | c :: cs, acc, i, h => by
    obtain ⟨h1, h2⟩ := h c List.mem_cons_self
    obtain ⟨g1, g2, g3, g4, g5, g6, g7, g8, -, -⟩ := stands_t (stands_mem hl (k := c.k.toNat) (by omega))
    have e : jobOne l c 0 (Tk l c.k.toNat).c = some (jobOf l c) := by
      unfold jobOne
      rw [if_neg]
      · rfl
      · have u1 : (l.getD c.k.toNat ta0).j = (Tk l c.k.toNat).j := rfl
        have u2 : (l.getD c.k.toNat ta0).c = (Tk l c.k.toNat).c := rfl
        omega
    rw [List.length_cons, List.replicate_succ, List.map_cons, jobsFrom, e]
    show jobsFrom l (acc ++ [jobOf l c]) cs _ _ _ = _
    rw [jobs_all hl cs (acc ++ [jobOf l c]) (i + 1) (fun c' hc' => h c' (List.mem_cons_of_mem _ hc')), List.map_cons, List.append_assoc]
    rfl

theorem hits_all : ∀ (r : List Ta) (i n : Nat), (∀ x ∈ r, x.o = 0) → n < r.length → (hitsFrom 0 r i)[n]? = some ⟨((i + n : Nat) : Int), 0⟩
  | [], i, n, _, hn => by simp at hn
  | x :: r, i, n, h, hn => by
    have ho := h x List.mem_cons_self
    rw [hitsFrom, if_pos (show hits x 0 from ⟨by omega, by rw [ho]; simp⟩)]
    cases n with
    | zero => rfl
    | succ n =>
      rw [List.getElem?_cons_succ, hits_all r (i + 1) n (fun y hy => h y (List.mem_cons_of_mem _ hy)) (by simpa using hn)]
      rw [show i + 1 + n = i + (n + 1) by omega]

theorem comesF_ok {l : List Ta} {e : Int} {g2 : Int} {cs : List Co} (h : comesF l e = ((0, g2), cs)) (hc : (chkF l).1 = 0) : g2 = 0 ∧ cs = comesUpto l e.toNat ∧ 0 ≤ e ∧ e ≤ 20000 := by
  have h0 := h
  unfold comesF at h
  rw [if_neg (by omega)] at h
  by_cases q1 : e < 0 ∨ 20000 < e
  · rw [if_pos q1] at h
    have := (Prod.mk.inj (Prod.mk.inj h).1).1
    cases this
  · rw [if_neg q1] at h
    by_cases q2 : 4000 < (comesUpto l e.toNat).length
    · rw [if_pos q2] at h
      have := (Prod.mk.inj (Prod.mk.inj h).1).1
      cases this
    · rw [if_neg q2] at h
      exact ⟨((Prod.mk.inj (Prod.mk.inj h).1).2).symm, (Prod.mk.inj h).2.symm, by omega, by omega⟩

theorem comesF_bad {l : List Ta} {e g1 g2 : Int} {cs : List Co} (h : comesF l e = ((g1, g2), cs)) (hg : g1 ≠ 0) : cs = [] := by
  unfold comesF at h
  by_cases q0 : (chkF l).1 ≠ 0
  · rw [if_pos q0] at h; exact (Prod.mk.inj h).2.symm
  · rw [if_neg q0] at h
    by_cases q1 : e < 0 ∨ 20000 < e
    · rw [if_pos q1] at h; exact (Prod.mk.inj h).2.symm
    · rw [if_neg q1] at h
      by_cases q2 : 4000 < (comesUpto l e.toNat).length
      · rw [if_pos q2] at h; exact (Prod.mk.inj h).2.symm
      · rw [if_neg q2] at h; exact absurd (Prod.mk.inj (Prod.mk.inj h).1).1.symm hg

theorem nought_of {l : List Ta} {e g2 : Int} {cs : List Co} (hX : (chkX l).1 = 0) (h : comesF l e = ((0, g2), cs)) (hf : ∀ k, k < l.length → (Tk l k).d ≤ e ∧ (Tk l k).j = 0 ∧ (Tk l k).o = 0) (ha : ∀ a b, a < b → b < l.length → (Tk l a).p ≠ (Tk l b).p) :
    jobsF l cs (List.replicate cs.length 0) (cs.map (fun c => (Tk l c.k.toNat).c)) = ((0, 0), cs.map (jobOf l)) ∧ Nought l e.toNat cs (cs.map (jobOf l)) := by
  obtain ⟨hck, hDT, hl1, h8, hst, -⟩ := chkX_ok hX
  obtain ⟨rfl, hcs, e0, e1⟩ := comesF_ok h hck
  have hleg := comes_legal h hck
  have hlk := legF_ok (by rw [hleg])
  have hmem : ∀ x ∈ l, ∃ k, k < l.length ∧ Tk l k = x := fun x hx => by
    obtain ⟨k, hk, rfl⟩ := List.getElem_of_mem hx
    exact ⟨k, hk, Tk_at (by simp [hk])⟩
  have hd1 : 1 ≤ e := by
    have := (hf 0 (by omega)).1
    have := (stands_t (stands_mem hst (k := 0) (by omega))).2.2.2.2.1
    omega
  refine ⟨?_, hX, fun x hx => ?_, fun i j hi hj hp => ?_, fun x hx => ?_, hcs, by simp, by rw [hleg], fun n c hn => ?_, fun i hi => ?_⟩
  · unfold jobsF
    rw [if_neg (by rw [hleg]; simp), if_neg (by simp), jobs_all hst cs [] 0 (fun c hc => ⟨(hlk.2.2 c hc).1, (hlk.2.2 c hc).2.1⟩), List.nil_append]
  · obtain ⟨k, hk, rfl⟩ := hmem x hx
    exact ⟨(hf k hk).2.1, (hf k hk).2.2⟩
  · rcases Nat.lt_trichotomy i j with q | q | q
    · exact absurd hp (ha i j q hj)
    · exact q
    · exact absurd hp.symm (ha j i q hi)
  · obtain ⟨k, hk, rfl⟩ := hmem x hx
    have := (hf k hk).1
    omega
  · unfold S8.J
    rw [List.getD_eq_getElem?_getD, List.getElem?_map, hn]
    show jobOf l c = _
    unfold jobOf
    rw [Int.add_zero]
  · obtain ⟨r, q1, -⟩ := comes_split (l := l) 1 (e.toNat - 1)
    rw [show 1 + (e.toNat - 1) = e.toNat by omega] at q1
    have q2 : comesUpto l 1 = hitsFrom 0 l 0 := rfl
    have q3 := hits_all l 0 i (fun x hx => by obtain ⟨k, hk, rfl⟩ := hmem x hx; exact (hf k hk).2.2) hi
    rw [Nat.zero_add] at q3
    rw [hcs, q1, q2, List.getElem?_append_left (List.getElem?_eq_some_iff.1 q3).1]
    exact q3
end Go.Proofs.Ytkafihaajpifoaf
