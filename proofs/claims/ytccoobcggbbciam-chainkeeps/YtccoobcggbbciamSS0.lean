import Derived.Sort.LotA
namespace Go.Proofs.Ytccoobcggbbciam.Stab
open Go.Sort (swp swp_get swp_size SWO SWO.asymmA PermIn permIn_refl permIn_trans permIn_mono permIn_all swp_permIn)
variable {α : Type} [Inhabited α] {lt : α → α → Bool} {ix : α → Nat}

/- A stable sort: what goes ahead by the order, or by neither and came first. -/
omit [Inhabited α] in
def Bef (lt : α → α → Bool) (ix : α → Nat) (x y : α) : Prop := lt x y = true ∨ (lt y x = false ∧ ix x < ix y)
omit [Inhabited α] in
theorem Bef.trans (hS : SWO lt) {x y z : α} (h1 : Bef lt ix x y) (h2 : Bef lt ix y z) : Bef lt ix x z := by
  rcases h1 with h1 | ⟨h1, i1⟩ <;> rcases h2 with h2 | ⟨h2, i2⟩
  · exact .inl (hS.trans _ _ _ h1 h2)
  · refine .inl ?_
    cases h : lt x z with
    | true => rfl
    | false => rw [hS.ntrans x z y h h2] at h1; cases h1
  · refine .inl ?_
    cases h : lt x z with
    | true => rfl
    | false => rw [hS.ntrans y x z h1 h] at h2; cases h2
  · exact .inr ⟨hS.ntrans z y x h2 h1, by omega⟩
omit [Inhabited α] in
theorem Bef.anti (hS : SWO lt) {x y : α} (h1 : Bef lt ix x y) (h2 : Bef lt ix y x) : False := by
  rcases h1 with h1 | ⟨h1, i1⟩ <;> rcases h2 with h2 | ⟨h2, i2⟩
  · rw [hS.asymmA h1] at h2; cases h2
  · rw [h1] at h2; cases h2
  · rw [h1] at h2; cases h2
  · omega

def Asc (lt : α → α → Bool) (ix : α → Nat) (a b : Nat) (d : Array α) : Prop := ∀ p q, a ≤ p → p < q → q < b → Bef lt ix d[p]! d[q]!
def Cross (ix : α → Nat) (a m b : Nat) (d : Array α) : Prop := ∀ p q, a ≤ p → p < m → m ≤ q → q < b → ix d[p]! < ix d[q]!

/- The insertion sort. -/
structure InsB (lt : α → α → Bool) (ix : α → Nat) (a j i : Nat) (d : Array α) : Prop where
  rest : ∀ p q, a ≤ p → p < q → q ≤ i → p ≠ j → q ≠ j → Bef lt ix d[p]! d[q]!
  right : ∀ q, j < q → q ≤ i → Bef lt ix d[j]! d[q]!
  late : ∀ p, a ≤ p → p ≤ i → p ≠ j → ix d[p]! < ix d[j]!
theorem InsB.start {a i : Nat} {d : Array α} (h : Asc lt ix a i d) (hl : ∀ p, a ≤ p → p < i → ix d[p]! < ix d[i]!) : InsB lt ix a i i d :=
  ⟨fun p q h1 h2 h3 _ h5 => h p q h1 h2 (by omega), fun q h1 h2 => by omega, fun p h1 h2 h3 => hl p h1 (by omega)⟩
theorem InsB.step {a j i : Nat} {d : Array α} (h : InsB lt ix a (j + 1) i d) (hl : lt d[j + 1]! d[j]! = true) (haj : a ≤ j) (hji : j + 1 ≤ i) (hsz : i < d.size) : InsB lt ix a j i (swp d (j + 1) j) := by
  have g := swp_get d (show j + 1 < d.size by omega) (show j < d.size by omega)
  refine ⟨fun p q h1 h2 h3 h4 h5 => ?_, fun q h1 h2 => ?_, fun p h1 h2 h3 => ?_⟩
  · rw [g, g, if_neg h4, if_neg h5]
    by_cases hq : q = j + 1
    · rw [if_pos hq, if_neg (by omega)]
      exact h.rest p j h1 (by omega) (by omega) (by omega) (by omega)
    · rw [if_neg hq]
      by_cases hp : p = j + 1
      · rw [if_pos hp]
        exact h.rest j q haj (by omega) h3 (by omega) hq
      · rw [if_neg hp]
        exact h.rest p q h1 h2 h3 hp hq
  · rw [g, g, if_pos rfl, if_neg (by omega)]
    by_cases hq : q = j + 1
    · rw [if_pos hq]
      exact .inl hl
    · rw [if_neg hq]
      exact h.right q (by omega) h2
  · rw [g, g, if_pos rfl, if_neg h3]
    by_cases hp : p = j + 1
    · rw [if_pos hp]
      exact h.late j haj (by omega) (by omega)
    · rw [if_neg hp]
      exact h.late p h1 h2 hp
theorem InsB.stop (hS : SWO lt) {a j i : Nat} {d : Array α} (h : InsB lt ix a j i d) (hs : j ≤ a ∨ lt d[j]! d[j - 1]! = false) (hji : j ≤ i) : Asc lt ix a (i + 1) d := by
  intro p q h1 h2 h3
  by_cases hq : q = j
  · subst hq
    rcases hs with hs | hs
    · omega
    have h9 : Bef lt ix d[q - 1]! d[q]! := .inr ⟨hs, h.late (q - 1) (by omega) (by omega) (by omega)⟩
    by_cases hp : p = q - 1
    · rw [hp]; exact h9
    · exact (h.rest p (q - 1) h1 (by omega) (by omega) (by omega) (by omega)).trans hS h9
  · by_cases hp : p = j
    · subst hp
      exact h.right q h2 (by omega)
    · exact h.rest p q h1 h2 (by omega) hp hq

/- One element moved up, or down. -/
def Up (a k : Nat) (d d' : Array α) : Prop := d'.size = d.size ∧ ∀ p, d'[p]! = if a ≤ p ∧ p < k then d[p + 1]! else if p = k then d[a]! else d[p]!
def Dn (m k : Nat) (d d' : Array α) : Prop := d'.size = d.size ∧ ∀ p, d'[p]! = if k < p ∧ p ≤ m then d[p - 1]! else if p = k then d[m]! else d[p]!
theorem Up.refl (a : Nat) (d : Array α) : Up a a d d := ⟨rfl, fun p => by
  rw [if_neg (by omega)]
  split
  · next h => rw [h]
  · rfl⟩
theorem Dn.refl (m : Nat) (d : Array α) : Dn m m d d := ⟨rfl, fun p => by
  rw [if_neg (by omega)]
  split
  · next h => rw [h]
  · rfl⟩
theorem Up.step {a k : Nat} {d d' : Array α} (h : Up a k d d') (hak : a ≤ k) (hk : k + 1 < d.size) : Up a (k + 1) d (swp d' k (k + 1)) := by
  refine ⟨by rw [swp_size, h.1], fun p => ?_⟩
  rw [swp_get d' (by rw [h.1]; omega) (by rw [h.1]; omega), h.2, h.2, h.2]
  by_cases h1 : p = k + 1
  · rw [if_pos h1, if_neg (by omega), if_pos rfl, if_neg (by omega), if_pos h1]
  · rw [if_neg h1]
    by_cases h2 : p = k
    · subst h2
      rw [if_pos rfl, if_neg (by omega), if_neg (by omega), if_pos (by omega)]
    · rw [if_neg h2]
      by_cases h3 : a ≤ p ∧ p < k
      · rw [if_pos h3, if_pos (by omega)]
      · rw [if_neg h3, if_neg h2, if_neg (by omega), if_neg h1]
theorem Dn.step {m k : Nat} {d d' : Array α} (h : Dn m (k + 1) d d') (hkm : k + 1 ≤ m) (hm : m < d.size) : Dn m k d (swp d' (k + 1) k) := by
  refine ⟨by rw [swp_size, h.1], fun p => ?_⟩
  rw [swp_get d' (by rw [h.1]; omega) (by rw [h.1]; omega), h.2, h.2, h.2]
  by_cases h1 : p = k
  · subst h1
    rw [if_pos rfl, if_neg (by omega), if_pos rfl, if_neg (by omega), if_pos rfl]
  · rw [if_neg h1]
    by_cases h2 : p = k + 1
    · subst h2
      rw [if_pos rfl, if_neg (by omega), if_neg (by omega), if_pos (by omega), Nat.add_sub_cancel]
    · rw [if_neg h2]
      by_cases h3 : k + 1 < p ∧ p ≤ m
      · rw [if_pos h3, if_pos (by omega)]
      · rw [if_neg h3, if_neg h2, if_neg (by omega), if_neg h1]
theorem asc_up (hS : SWO lt) {a i b : Nat} {d d' : Array α} (h : Up a (i - 1) d d') (hA : Asc lt ix (a + 1) b d) (h1 : a + 1 ≤ i) (h2 : i ≤ b) (h3 : i = a + 1 ∨ Bef lt ix d[i - 1]! d[a]!) (h4 : i = b ∨ Bef lt ix d[a]! d[i]!) : Asc lt ix a b d' := by
  intro p q hp hpq hq
  rw [h.2, h.2]
  have lo : ∀ x, a + 1 ≤ x → x ≤ i - 1 → Bef lt ix d[x]! d[a]! := fun x hx hx2 => by
    rcases h3 with h3 | h3
    · omega
    · by_cases e : x = i - 1
      · rw [e]; exact h3
      · exact (hA x (i - 1) hx (by omega) (by omega)).trans hS h3
  have hi : ∀ x, i ≤ x → x < b → Bef lt ix d[a]! d[x]! := fun x hx hx2 => by
    rcases h4 with h4 | h4
    · omega
    · by_cases e : x = i
      · rw [e]; exact h4
      · exact h4.trans hS (hA i x (by omega) (by omega) hx2)
  by_cases c1 : p < i - 1
  · rw [if_pos ⟨hp, c1⟩]
    by_cases c2 : q < i - 1
    · rw [if_pos ⟨by omega, c2⟩]
      exact hA _ _ (by omega) (by omega) (by omega)
    · rw [if_neg (by omega)]
      by_cases c3 : q = i - 1
      · rw [if_pos c3]
        exact lo _ (by omega) (by omega)
      · rw [if_neg c3]
        exact hA _ _ (by omega) (by omega) hq
  · rw [if_neg (by omega), if_neg (show ¬ (a ≤ q ∧ q < i - 1) by omega), if_neg (show ¬ q = i - 1 by omega)]
    by_cases c3 : p = i - 1
    · rw [if_pos c3]
      exact hi _ (by omega) hq
    · rw [if_neg c3]
      exact hA _ _ (by omega) hpq hq
theorem asc_dn (hS : SWO lt) {a i m : Nat} {d d' : Array α} (h : Dn m i d d') (hA : Asc lt ix a m d) (h1 : a ≤ i) (h2 : i ≤ m) (h3 : i = a ∨ Bef lt ix d[i - 1]! d[m]!) (h4 : i = m ∨ Bef lt ix d[m]! d[i]!) : Asc lt ix a (m + 1) d' := by
  intro p q hp hpq hq
  rw [h.2, h.2]
  have lo : ∀ x, a ≤ x → x < i → Bef lt ix d[x]! d[m]! := fun x hx hx2 => by
    rcases h3 with h3 | h3
    · omega
    · by_cases e : x = i - 1
      · rw [e]; exact h3
      · exact (hA x (i - 1) hx (by omega) (by omega)).trans hS h3
  have hi : ∀ x, i ≤ x → x < m → Bef lt ix d[m]! d[x]! := fun x hx hx2 => by
    rcases h4 with h4 | h4
    · omega
    · by_cases e : x = i
      · rw [e]; exact h4
      · exact h4.trans hS (hA i x (by omega) (by omega) hx2)
  by_cases c1 : p < i
  · rw [if_neg (show ¬ (i < p ∧ p ≤ m) by omega), if_neg (show ¬ p = i by omega)]
    by_cases c2 : q < i
    · rw [if_neg (by omega), if_neg (by omega)]
      exact hA _ _ hp hpq (by omega)
    · by_cases c3 : q = i
      · rw [if_neg (by omega), if_pos c3]
        exact lo _ hp c1
      · rw [if_pos (by omega)]
        exact hA _ _ hp (by omega) (by omega)
  · rw [if_pos (show i < q ∧ q ≤ m by omega)]
    by_cases c3 : p = i
    · rw [if_neg (by omega), if_pos c3]
      exact hi _ (by omega) (by omega)
    · rw [if_pos (by omega)]
      exact hA _ _ (by omega) (by omega) (by omega)

/- Ranges exchanged; a rotation. -/
def Swr (a b n : Nat) (d d' : Array α) : Prop := d'.size = d.size ∧ ∀ p, d'[p]! = if a ≤ p ∧ p < a + n then d[p - a + b]! else if b ≤ p ∧ p < b + n then d[p - b + a]! else d[p]!
theorem Swr.refl (a b : Nat) (d : Array α) : Swr a b 0 d d := ⟨rfl, fun p => by rw [if_neg (by omega), if_neg (by omega)]⟩
theorem Swr.step {a b n N : Nat} {d d' : Array α} (h : Swr a b n d d') (hn : n < N) (hab : a + N ≤ b) (hb : b + N ≤ d.size) : Swr a b (n + 1) d (swp d' (a + n) (b + n)) := by
  refine ⟨by rw [swp_size, h.1], fun p => ?_⟩
  rw [swp_get d' (by rw [h.1]; omega) (by rw [h.1]; omega), h.2, h.2, h.2]
  by_cases h1 : p = b + n
  · subst h1
    rw [if_pos rfl, if_neg (by omega), if_neg (by omega), if_neg (by omega), if_pos (by omega)]
    congr 1; omega
  · rw [if_neg h1]
    by_cases h2 : p = a + n
    · subst h2
      rw [if_pos rfl, if_neg (by omega), if_neg (by omega), if_pos (by omega)]
      congr 1; omega
    · rw [if_neg h2]
      by_cases h3 : a ≤ p ∧ p < a + n
      · rw [if_pos h3, if_pos (by omega)]
      · rw [if_neg h3, if_neg (show ¬ (a ≤ p ∧ p < a + (n + 1)) by omega)]
        by_cases h4 : b ≤ p ∧ p < b + n
        · rw [if_pos h4, if_pos (by omega)]
        · rw [if_neg h4, if_neg (by omega)]
def Rot (a m b : Nat) (d d' : Array α) : Prop := d'.size = d.size ∧ ∀ p, d'[p]! = if a ≤ p ∧ p < a + (b - m) then d[p - a + m]! else if a + (b - m) ≤ p ∧ p < b then d[p - (b - m)]! else d[p]!
theorem Rot.none {a m b : Nat} {d : Array α} (h : a = m ∨ m = b) (h1 : a ≤ m) (h2 : m ≤ b) : Rot a m b d d := by
  refine ⟨rfl, fun p => ?_⟩
  rcases h with rfl | rfl
  · split
    · congr 1; omega
    · rw [if_neg (by omega)]
  · rw [if_neg (by omega)]
    split
    · congr 1; omega
    · rfl
theorem rot_eq {m i : Nat} {d d' : Array α} (hi : i ≤ m) (h : Swr (m - i) m i d d') : Rot (m - i) m (m + i) d d' := by
  refine ⟨h.1, fun p => ?_⟩
  rw [h.2]
  by_cases c : m - i ≤ p ∧ p < m - i + i
  · rw [if_pos c, if_pos (by omega)]
  · rw [if_neg c]
    by_cases c2 : m ≤ p ∧ p < m + i
    · rw [if_pos c2, if_neg (by omega), if_pos (by omega)]
      congr 1; omega
    · rw [if_neg c2, if_neg (by omega), if_neg (by omega)]
theorem rot_gt {m i j : Nat} {d d' d2 : Array α} (hi : i ≤ m) (hij : j < i) (h : Swr (m - i) m j d d') (h2 : Rot (m - (i - j)) m (m + j) d' d2) : Rot (m - i) m (m + j) d d2 := by
  refine ⟨h2.1.trans h.1, fun p => ?_⟩
  rw [h2.2]
  by_cases c : m - (i - j) ≤ p ∧ p < m - (i - j) + (m + j - m)
  · rw [if_pos c, h.2, if_neg (by omega), if_pos (by omega), if_neg (by omega), if_pos (by omega)]
    congr 1; omega
  · rw [if_neg c]
    by_cases c2 : m - (i - j) + (m + j - m) ≤ p ∧ p < m + j
    · rw [if_pos c2, h.2, if_neg (by omega), if_neg (by omega), if_neg (by omega), if_pos (by omega)]
    · rw [if_neg c2, h.2]
      by_cases c3 : m - i ≤ p ∧ p < m - i + j
      · rw [if_pos c3, if_pos (by omega)]
      · rw [if_neg c3, if_neg (by omega), if_neg (by omega), if_neg (by omega)]
theorem rot_lt {m i j : Nat} {d d' d2 : Array α} (hi : i ≤ m) (hij : i < j) (h : Swr (m - i) (m + j - i) i d d') (h2 : Rot (m - i) m (m + (j - i)) d' d2) : Rot (m - i) m (m + j) d d2 := by
  refine ⟨h2.1.trans h.1, fun p => ?_⟩
  rw [h2.2]
  by_cases c : m - i ≤ p ∧ p < m - i + (m + (j - i) - m)
  · rw [if_pos c, h.2, if_neg (by omega), if_neg (by omega), if_pos (by omega)]
  · rw [if_neg c]
    by_cases c2 : m - i + (m + (j - i) - m) ≤ p ∧ p < m + (j - i)
    · rw [if_pos c2, h.2, if_pos (by omega)]
      by_cases c5 : m - i ≤ p ∧ p < m - i + (m + j - m)
      · rw [if_pos c5]; congr 1; omega
      · omega
    · rw [if_neg c2, h.2]
      by_cases c3 : m + j - i ≤ p ∧ p < m + j - i + i
      · rw [if_neg (by omega), if_pos c3, if_neg (by omega), if_pos (by omega)]
        congr 1; omega
      · rw [if_neg (by omega), if_neg c3, if_neg (by omega), if_neg (by omega)]

/- The middle of a merge. -/
structure Sym (lt : α → α → Bool) (ix : α → Nat) (a m b mid s e : Nat) (d d' : Array α) : Prop where
  lo1 : Asc lt ix a s d'
  lo2 : Asc lt ix s mid d'
  loc : Cross ix a s mid d'
  hi1 : Asc lt ix mid e d'
  hi2 : Asc lt ix e b d'
  hic : Cross ix mid e b d'
  mix : ∀ p q, a ≤ p → p < mid → mid ≤ q → q < b → Bef lt ix d'[p]! d'[q]!

theorem sym_of (hS : SWO lt) {a m b mid s e : Nat} {d d' : Array α} (hm : a < m) (hmid : mid = (a + b) / 2) (he : e + s = mid + m) (h1 : Asc lt ix a m d) (h2 : Asc lt ix m b d) (hc : Cross ix a m b d)
    (hs0 : if mid < m then mid + m ≤ s + b ∧ s ≤ mid else a ≤ s ∧ s ≤ m)
    (hlow : (if mid < m then s + b = mid + m else s = a) ∨ lt d[e]! d[s - 1]! = false) (hhigh : (if mid < m then s = mid else s = m) ∨ lt d[e - 1]! d[s]! = true) (hr : Rot s m e d d') : Sym lt ix a m b mid s e d d' ∧ a ≤ s ∧ s ≤ mid ∧ s ≤ m ∧ mid ≤ e ∧ m ≤ e ∧ e ≤ b := by
  have k1 : a ≤ s := by split at hs0 <;> omega
  have k2 : s ≤ mid := by split at hs0 <;> omega
  have k3 : s ≤ m := by split at hs0 <;> omega
  have k4 : m ≤ e := by omega
  have k5 : mid ≤ e := by omega
  have k6 : e ≤ b := by split at hs0 <;> omega
  have g : ∀ p, d'[p]! = if s ≤ p ∧ p < mid then d[p - s + m]! else if mid ≤ p ∧ p < e then d[p - (e - m)]! else d[p]! := fun p => by
    rw [hr.2, show s + (e - m) = mid by omega]
  -- the four parts
  have L1 : ∀ p, a ≤ p → p < s → d'[p]! = d[p]! := fun p h3 h4 => by rw [g, if_neg (by omega), if_neg (by omega)]
  have R1 : ∀ p, s ≤ p → p < mid → d'[p]! = d[p - s + m]! := fun p h3 h4 => by rw [g, if_pos ⟨h3, h4⟩]
  have L2 : ∀ p, mid ≤ p → p < e → d'[p]! = d[p - (e - m)]! := fun p h3 h4 => by rw [g, if_neg (by omega), if_pos ⟨h3, h4⟩]
  have R2 : ∀ p, e ≤ p → p < b → d'[p]! = d[p]! := fun p h3 h4 => by rw [g, if_neg (by omega), if_neg (by omega)]
  have lr : ∀ p q, a ≤ p → p < s → e ≤ q → q < b → Bef lt ix d[p]! d[q]! := fun p q h3 h4 h5 h6 => by
    have hB : Bef lt ix d[s - 1]! d[e]! := by
      rcases hlow with h | h
      · split at h <;> omega
      · exact .inr ⟨h, hc _ _ (by omega) (by omega) k4 (by omega)⟩
    have hB1 : Bef lt ix d[p]! d[e]! := by
      by_cases e1 : p = s - 1
      · rw [e1]; exact hB
      · exact (h1 p (s - 1) h3 (by omega) (by omega)).trans hS hB
    by_cases e2 : q = e
    · rw [e2]; exact hB1
    · exact hB1.trans hS (h2 e q k4 (by omega) h6)
  have rl : ∀ p q, m ≤ p → p < e → s ≤ q → q < m → Bef lt ix d[p]! d[q]! := fun p q h3 h4 h5 h6 => by
    have hB : Bef lt ix d[e - 1]! d[s]! := by
      rcases hhigh with h | h
      · split at h <;> omega
      · exact .inl h
    have hB1 : Bef lt ix d[p]! d[s]! := by
      by_cases e1 : p = e - 1
      · rw [e1]; exact hB
      · exact (h2 p (e - 1) h3 (by omega) (by omega)).trans hS hB
    by_cases e2 : q = s
    · rw [e2]; exact hB1
    · exact hB1.trans hS (h1 s q k1 (by omega) h6)
  refine ⟨⟨fun p q h3 h4 h5 => ?_, fun p q h3 h4 h5 => ?_, fun p q h3 h4 h5 h6 => ?_, fun p q h3 h4 h5 => ?_, fun p q h3 h4 h5 => ?_, fun p q h3 h4 h5 h6 => ?_, fun p q h3 h4 h5 h6 => ?_⟩, k1, k2, k3, k5, k4, k6⟩
  · rw [L1 p h3 (by omega), L1 q (by omega) h5]
    exact h1 p q h3 h4 (by omega)
  · rw [R1 p h3 (by omega), R1 q (by omega) h5]
    exact h2 _ _ (by omega) (by omega) (by omega)
  · rw [L1 p h3 h4, R1 q h5 h6]
    exact hc _ _ h3 (by omega) (by omega) (by omega)
  · rw [L2 p h3 (by omega), L2 q (by omega) h5]
    exact h1 _ _ (by omega) (by omega) (by omega)
  · rw [R2 p h3 (by omega), R2 q (by omega) h5]
    exact h2 _ _ (by omega) h4 h5
  · rw [L2 p h3 h4, R2 q h5 h6]
    exact hc _ _ (by omega) (by omega) (by omega) h6
  · by_cases c1 : p < s
    · rw [L1 p h3 c1]
      by_cases c2 : q < e
      · rw [L2 q h5 c2]
        exact h1 _ _ h3 (by omega) (by omega)
      · rw [R2 q (by omega) h6]
        exact lr p q h3 c1 (by omega) h6
    · rw [R1 p (by omega) h4]
      by_cases c2 : q < e
      · rw [L2 q h5 c2]
        exact rl _ _ (by omega) (by omega) (by omega) (by omega)
      · rw [R2 q (by omega) h6]
        exact h2 _ _ (by omega) (by omega) h6

theorem asc_join {a mid b : Nat} {d1 d2 d3 : Array α} (h2 : PermIn a mid d1 d2) (h3 : PermIn mid b d2 d3) (hb : b ≤ d1.size) (hm : mid ≤ b) (hA : Asc lt ix a mid d2) (hB : Asc lt ix mid b d3) (hx : ∀ p q, a ≤ p → p < mid → mid ≤ q → q < b → Bef lt ix d1[p]! d1[q]!) : Asc lt ix a b d3 := by
  have hlo : ∀ p, p < mid → d3[p]! = d2[p]! := fun p hp => h3.2.1 p (.inl hp)
  have hhi : ∀ p, mid ≤ p → d2[p]! = d1[p]! := fun p hp => h2.2.1 p (.inr hp)
  have hc : ∀ p q, a ≤ p → p < mid → mid ≤ q → q < b → Bef lt ix d3[p]! d3[q]! := by
    intro p q h4 h5 h6 h7
    rw [hlo p h5]
    refine permIn_all d2 d3 mid b (fun y => Bef lt ix d2[p]! y) (by rw [h2.1]; exact hb) h3 (fun r h8 h9 => ?_) q h6 h7
    rw [hhi r h8]
    exact permIn_all d1 d2 a mid (fun x => Bef lt ix x d1[r]!) (by omega) h2 (fun x h10 h11 => hx x r h10 h11 h8 h9) p h4 h5
  intro p q h4 h5 h6
  by_cases c1 : q < mid
  · rw [hlo p (by omega), hlo q c1]
    exact hA p q h4 h5 c1
  · by_cases c2 : p < mid
    · exact hc p q h4 c2 (by omega) h6
    · exact hB p q (by omega) h5 h6
end Go.Proofs.Ytccoobcggbbciam.Stab
