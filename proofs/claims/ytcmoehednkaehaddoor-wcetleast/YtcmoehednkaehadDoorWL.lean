import Derived.Test.YtcmoehednkaehadDoorWN
namespace Go.Proofs.YtcmoehednkaehadDoor
open Go.ChangeShapes Go.WideShapes Go.ChangeAt Go.RowKit

/-- The least that is left, from the end on. -/
def restAt (l : List In) : Nat → Nat → Int
  | 0, _ => 0
  | d + 1, j => if j = l.length - (d + 1) then ruleI l (restAt l d) (clF l) j else restAt l d j
def restF (l : List In) (j : Nat) : Int := restAt l l.length j

/-- Where what is asked of an instruction lies. -/
structure Fwd (l : List In) (cl : Nat → Nat) : Prop where
  shut : ∀ k, k < l.length → ((l.getD k in0).op = 13 ∨ (l.getD k in0).op = 16) → k < cl k ∧ cl k < l.length
  jump : ∀ k, k < l.length → ((l.getD k in0).op = 11 ∨ (l.getD k in0).op = 12) → k < (l.getD k in0).a.toNat ∧ (l.getD k in0).a.toNat ≤ l.length
  form : ∀ k, k < l.length → formErr (l.getD k in0) = 0

theorem rule_mono {l : List In} {cl : Nat → Nat} {R R' : Nat → Int} (hw : Fwd l cl) {k : Nat} (hk : k < l.length) (h : ∀ j, k < j → j ≤ l.length → R j ≤ R' j) : ruleI l R cl k ≤ ruleI l R' cl k := by
  have h1 := h (k + 1) (by omega) (by omega)
  have hb := (form_a (hw.form k hk)).2.2.2.2.2.2.2.1
  unfold ruleI
  split
  · omega
  split
  · omega
  split
  · rename_i e
    have := hw.jump k hk (.inl e)
    have := h _ this.1 this.2
    omega
  split
  · rename_i e
    have := hw.jump k hk (.inr e)
    have := h _ this.1 this.2
    omega
  split
  · rename_i e
    have := hw.shut k hk (.inl e)
    have := h (cl k + 1) (by omega) (by omega)
    have := Int.mul_le_mul_of_nonneg_left h1 (show 0 ≤ (l.getD k in0).b + 1 by omega)
    omega
  split
  · rename_i e
    have := hw.shut k hk (.inr e)
    have := h (cl k + 1) (by omega) (by omega)
    omega
  · omega

theorem rule_congr {l : List In} {cl : Nat → Nat} {R R' : Nat → Int} (hw : Fwd l cl) {k : Nat} (hk : k < l.length) (h : ∀ j, k < j → j ≤ l.length → R j = R' j) : ruleI l R cl k = ruleI l R' cl k :=
  Int.le_antisymm (rule_mono hw hk fun j h1 h2 => Int.le_of_eq (h j h1 h2)) (rule_mono hw hk fun j h1 h2 => Int.le_of_eq (h j h1 h2).symm)

theorem rule_pos {l : List In} {cl : Nat → Nat} {R : Nat → Int} (hw : Fwd l cl) {k : Nat} (hk : k < l.length) (h : ∀ j, 0 ≤ R j) : 0 ≤ ruleI l R cl k := by
  have h1 := h (k + 1)
  have hf := hw.form k hk
  have hb := (form_a hf).2.2.2.2.2.2.2.1
  have hc := (cost_le hf false).1
  have h2 := h (cl k + 1)
  have h3 := h (l.getD k in0).a.toNat
  unfold ruleI
  split
  · omega
  split
  · omega
  split
  · omega
  split
  · omega
  split
  · have := Int.mul_nonneg (show 0 ≤ (l.getD k in0).b + 1 by omega) h1
    omega
  split
  · omega
  · omega

theorem restAt_stays (l : List In) {j : Nat} : ∀ d e, d + e ≤ l.length → l.length - d ≤ j → restAt l (d + e) j = restAt l d j
  | d, 0, _, _ => rfl
  | d, e + 1, h, hj => by
    show (if j = l.length - (d + e + 1) then _ else restAt l (d + e) j) = _
    rw [if_neg (by omega)]
    exact restAt_stays l d e (by omega) hj

theorem restAt_out (l : List In) {j : Nat} (hj : l.length ≤ j) : ∀ d, d ≤ l.length → restAt l d j = 0
  | 0, _ => rfl
  | d + 1, h => by
    show (if j = l.length - (d + 1) then _ else restAt l d j) = _
    rw [if_neg (by omega)]
    exact restAt_out l hj d (by omega)

theorem restF_out {l : List In} {j : Nat} (hj : l.length ≤ j) : restF l j = 0 := restAt_out l hj _ (Nat.le_refl _)

theorem restF_at {l : List In} {k d : Nat} (hk : k < l.length) (hd : l.length - k ≤ d) (hd' : d ≤ l.length) : restAt l d k = restF l k := by
  unfold restF
  have h1 := restAt_stays l (j := k) (l.length - k) (d - (l.length - k)) (by omega) (by omega)
  have h2 := restAt_stays l (j := k) (l.length - k) (l.length - (l.length - k)) (by omega) (by omega)
  rw [show l.length - k + (d - (l.length - k)) = d by omega] at h1
  rw [show l.length - k + (l.length - (l.length - k)) = l.length by omega] at h2
  rw [h1, h2]

theorem restF_rule {l : List In} (hw : Fwd l (clF l)) {k : Nat} (hk : k < l.length) : restF l k = ruleI l (restF l) (clF l) k := by
  rw [← restF_at hk (Nat.le_refl _) (Nat.sub_le _ _)]
  obtain ⟨d, hd⟩ : ∃ d, l.length - k = d + 1 := ⟨l.length - k - 1, by omega⟩
  rw [hd]
  show (if k = l.length - (d + 1) then ruleI l (restAt l d) (clF l) k else _) = _
  rw [if_pos (by omega)]
  refine rule_congr hw hk fun j h1 h2 => ?_
  by_cases hj : j < l.length
  · exact restF_at hj (by omega) (by omega)
  · rw [restF_out (by omega), restAt_out l (by omega) d (by omega)]

theorem restAt_pos {l : List In} (hw : Fwd l (clF l)) : ∀ d, d ≤ l.length → ∀ j, 0 ≤ restAt l d j
  | 0, _, _ => Int.le_refl _
  | d + 1, h, j => by
    show 0 ≤ (if j = l.length - (d + 1) then _ else restAt l d j)
    split
    · exact rule_pos hw (by omega) (restAt_pos hw d (by omega))
    · exact restAt_pos hw d (by omega) j

theorem restF_pos {l : List In} (hw : Fwd l (clF l)) (j : Nat) : 0 ≤ restF l j := restAt_pos hw _ (Nat.le_refl _) j

/-- It is the least. -/
theorem restF_least {l : List In} (hw : Fwd l (clF l)) {R : Nat → Int} (h0 : 0 ≤ R l.length) (hR : ∀ k, k < l.length → ruleI l R (clF l) k ≤ R k) : ∀ (d k : Nat), l.length - k ≤ d → k ≤ l.length → restF l k ≤ R k
  | 0, k, hd, hk => by
    have : k = l.length := by omega
    subst this
    rw [restF_out (Nat.le_refl _)]; exact h0
  | d + 1, k, hd, hk => by
    by_cases e : k = l.length
    · subst e
      rw [restF_out (Nat.le_refl _)]; exact h0
    · rw [restF_rule hw (by omega)]
      refine Int.le_trans (rule_mono hw (by omega) fun j h1 h2 => ?_) (hR k (by omega))
      exact restF_least hw h0 hR d j (by omega) h2

/-- How great what is asked can be. -/
theorem rule_most {l : List In} {cl : Nat → Nat} {R : Nat → Int} (hw : Fwd l cl) {k : Nat} (hk : k < l.length) (h : ∀ j, k < j → R j ≤ 1099511627776) : ruleI l R cl k ≤ 1103913000000000 := by
  have h1 := h (k + 1) (by omega)
  have hf := hw.form k hk
  obtain ⟨-, -, -, -, h13, -⟩ := form_a hf
  have hc := (cost_le hf false).2
  unfold ruleI
  split
  · omega
  split
  · omega
  split
  · rename_i e
    have := h _ (hw.jump k hk (.inl e)).1
    omega
  split
  · rename_i e
    have := h _ (hw.jump k hk (.inr e)).1
    omega
  split
  · rename_i e
    have hb := h13 e
    have := h (cl k + 1) (by have := hw.shut k hk (.inl e); omega)
    have := Int.mul_le_mul_of_nonneg_left h1 (show 0 ≤ (l.getD k in0).b + 1 by omega)
    omega
  split
  · rename_i e
    have := h (cl k + 1) (by have := hw.shut k hk (.inr e); omega)
    omega
  · omega


end Go.Proofs.YtcmoehednkaehadDoor
