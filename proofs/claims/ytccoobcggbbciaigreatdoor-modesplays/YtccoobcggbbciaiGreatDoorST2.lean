import Derived.Sort.LotA
import Derived.Test.YtccoobcggbbciaiGreatDoorTK
import Derived.Shelf.Abstract
import Derived.Maps.AppendAt
import Derived.Deep.AppendLies
namespace Go.Proofs.YtccoobcggbbciaiGreatDoor.Stab
open Go.Sort (swp swp_get swp_size SWO SWO.asymmA PermIn permIn_refl permIn_trans permIn_mono permIn_all swp_permIn)
variable {α : Type} [Inhabited α] {lt : α → α → Bool} {ix : α → Nat}

/- A stable sort: what goes ahead by the order, or by neither and came first. -/
omit [Inhabited α] in
def Bef (lt : α → α → Bool) (ix : α → Nat) (x y : α) : Prop := lt x y = true ∨ (lt y x = false ∧ ix x < ix y)
omit [Inhabited α] in
theorem Bef.trans (hS : SWO lt) {x y z : α} (h1 : Bef lt ix x y) (h2 : Bef lt ix y z) : Bef lt ix x z := by
  rcases h1 with h1 | ⟨h1, i1⟩ <;> rcases h2 with h2 | ⟨h2, i2⟩
  · exact .inl (hS.trans _ _ _ h1 h2)
  · refine .inl ?_
    cases h : lt x z with
    | true => rfl
    | false => rw [hS.ntrans x z y h h2] at h1; cases h1
  · refine .inl ?_
    cases h : lt x z with
    | true => rfl
    | false => rw [hS.ntrans y x z h1 h] at h2; cases h2
  · exact .inr ⟨hS.ntrans z y x h2 h1, by omega⟩
omit [Inhabited α] in
theorem Bef.anti (hS : SWO lt) {x y : α} (h1 : Bef lt ix x y) (h2 : Bef lt ix y x) : False := by
  rcases h1 with h1 | ⟨h1, i1⟩ <;> rcases h2 with h2 | ⟨h2, i2⟩
  · rw [hS.asymmA h1] at h2; cases h2
  · rw [h1] at h2; cases h2
  · rw [h1] at h2; cases h2
  · omega

def Asc (lt : α → α → Bool) (ix : α → Nat) (a b : Nat) (d : Array α) : Prop := ∀ p q, a ≤ p → p < q → q < b → Bef lt ix d[p]! d[q]!
def Cross (ix : α → Nat) (a m b : Nat) (d : Array α) : Prop := ∀ p q, a ≤ p → p < m → m ≤ q → q < b → ix d[p]! < ix d[q]!

/- The insertion sort. -/
structure InsB (lt : α → α → Bool) (ix : α → Nat) (a j i : Nat) (d : Array α) : Prop where
  rest : ∀ p q, a ≤ p → p < q → q ≤ i → p ≠ j → q ≠ j → Bef lt ix d[p]! d[q]!
  right : ∀ q, j < q → q ≤ i → Bef lt ix d[j]! d[q]!
  late : ∀ p, a ≤ p → p ≤ i → p ≠ j → ix d[p]! < ix d[j]!
theorem InsB.start {a i : Nat} {d : Array α} (h : Asc lt ix a i d) (hl : ∀ p, a ≤ p → p < i → ix d[p]! < ix d[i]!) : InsB lt ix a i i d :=
  ⟨fun p q h1 h2 h3 _ h5 => h p q h1 h2 (by omega), fun q h1 h2 => by omega, fun p h1 h2 h3 => hl p h1 (by omega)⟩
theorem InsB.step {a j i : Nat} {d : Array α} (h : InsB lt ix a (j + 1) i d) (hl : lt d[j + 1]! d[j]! = true) (haj : a ≤ j) (hji : j + 1 ≤ i) (hsz : i < d.size) : InsB lt ix a j i (swp d (j + 1) j) := by
  have g := swp_get d (show j + 1 < d.size by omega) (show j < d.size by omega)
  refine ⟨fun p q h1 h2 h3 h4 h5 => ?_, fun q h1 h2 => ?_, fun p h1 h2 h3 => ?_⟩
  · rw [g, g, if_neg h4, if_neg h5]
    by_cases hq : q = j + 1
    · rw [if_pos hq, if_neg (by omega)]
      exact h.rest p j h1 (by omega) (by omega) (by omega) (by omega)
    · rw [if_neg hq]
      by_cases hp : p = j + 1
      · rw [if_pos hp]
        exact h.rest j q haj (by omega) h3 (by omega) hq
      · rw [if_neg hp]
        exact h.rest p q h1 h2 h3 hp hq
  · rw [g, g, if_pos rfl, if_neg (by omega)]
    by_cases hq : q = j + 1
    · rw [if_pos hq]
      exact .inl hl
    · rw [if_neg hq]
      exact h.right q (by omega) h2
  · rw [g, g, if_pos rfl, if_neg h3]
    by_cases hp : p = j + 1
    · rw [if_pos hp]
      exact h.late j haj (by omega) (by omega)
    · rw [if_neg hp]
      exact h.late p h1 h2 hp
theorem InsB.stop (hS : SWO lt) {a j i : Nat} {d : Array α} (h : InsB lt ix a j i d) (hs : j ≤ a ∨ lt d[j]! d[j - 1]! = false) (hji : j ≤ i) : Asc lt ix a (i + 1) d := by
  intro p q h1 h2 h3
  by_cases hq : q = j
  · subst hq
    rcases hs with hs | hs
    · omega
    have h9 : Bef lt ix d[q - 1]! d[q]! := .inr ⟨hs, h.late (q - 1) (by omega) (by omega) (by omega)⟩
    by_cases hp : p = q - 1
    · rw [hp]; exact h9
    · exact (h.rest p (q - 1) h1 (by omega) (by omega) (by omega) (by omega)).trans hS h9
  · by_cases hp : p = j
    · subst hp
      exact h.right q h2 (by omega)
    · exact h.rest p q h1 h2 (by omega) hp hq

/- One element moved up, or down. -/
def Up (a k : Nat) (d d' : Array α) : Prop := d'.size = d.size ∧ ∀ p, d'[p]! = if a ≤ p ∧ p < k then d[p + 1]! else if p = k then d[a]! else d[p]!
def Dn (m k : Nat) (d d' : Array α) : Prop := d'.size = d.size ∧ ∀ p, d'[p]! = if k < p ∧ p ≤ m then d[p - 1]! else if p = k then d[m]! else d[p]!
theorem Up.refl (a : Nat) (d : Array α) : Up a a d d := ⟨rfl, fun p => by
  rw [if_neg (by omega)]
  split
  · next h => rw [h]
  · rfl⟩
theorem Dn.refl (m : Nat) (d : Array α) : Dn m m d d := ⟨rfl, fun p => by
  rw [if_neg (by omega)]
  split
  · next h => rw [h]
  · rfl⟩
theorem Up.step {a k : Nat} {d d' : Array α} (h : Up a k d d') (hak : a ≤ k) (hk : k + 1 < d.size) : Up a (k + 1) d (swp d' k (k + 1)) := by
  refine ⟨by rw [swp_size, h.1], fun p => ?_⟩
  rw [swp_get d' (by rw [h.1]; omega) (by rw [h.1]; omega), h.2, h.2, h.2]
  by_cases h1 : p = k + 1
  · rw [if_pos h1, if_neg (by omega), if_pos rfl, if_neg (by omega), if_pos h1]
  · rw [if_neg h1]
    by_cases h2 : p = k
    · subst h2
      rw [if_pos rfl, if_neg (by omega), if_neg (by omega), if_pos (by omega)]
    · rw [if_neg h2]
      by_cases h3 : a ≤ p ∧ p < k
      · rw [if_pos h3, if_pos (by omega)]
      · rw [if_neg h3, if_neg h2, if_neg (by omega), if_neg h1]
theorem Dn.step {m k : Nat} {d d' : Array α} (h : Dn m (k + 1) d d') (hkm : k + 1 ≤ m) (hm : m < d.size) : Dn m k d (swp d' (k + 1) k) := by
  refine ⟨by rw [swp_size, h.1], fun p => ?_⟩
  rw [swp_get d' (by rw [h.1]; omega) (by rw [h.1]; omega), h.2, h.2, h.2]
  by_cases h1 : p = k
  · subst h1
    rw [if_pos rfl, if_neg (by omega), if_pos rfl, if_neg (by omega), if_pos rfl]
  · rw [if_neg h1]
    by_cases h2 : p = k + 1
    · subst h2
      rw [if_pos rfl, if_neg (by omega), if_neg (by omega), if_pos (by omega), Nat.add_sub_cancel]
    · rw [if_neg h2]
      by_cases h3 : k + 1 < p ∧ p ≤ m
      · rw [if_pos h3, if_pos (by omega)]
      · rw [if_neg h3, if_neg h2, if_neg (by omega), if_neg h1]
theorem asc_up (hS : SWO lt) {a i b : Nat} {d d' : Array α} (h : Up a (i - 1) d d') (hA : Asc lt ix (a + 1) b d) (h1 : a + 1 ≤ i) (h2 : i ≤ b) (h3 : i = a + 1 ∨ Bef lt ix d[i - 1]! d[a]!) (h4 : i = b ∨ Bef lt ix d[a]! d[i]!) : Asc lt ix a b d' := by
  intro p q hp hpq hq
  rw [h.2, h.2]
  have lo : ∀ x, a + 1 ≤ x → x ≤ i - 1 → Bef lt ix d[x]! d[a]! := fun x hx hx2 => by
    rcases h3 with h3 | h3
    · omega
    · by_cases e : x = i - 1
      · rw [e]; exact h3
      · exact (hA x (i - 1) hx (by omega) (by omega)).trans hS h3
  have hi : ∀ x, i ≤ x → x < b → Bef lt ix d[a]! d[x]! := fun x hx hx2 => by
    rcases h4 with h4 | h4
    · omega
    · by_cases e : x = i
      · rw [e]; exact h4
      · exact h4.trans hS (hA i x (by omega) (by omega) hx2)
  by_cases c1 : p < i - 1
  · rw [if_pos ⟨hp, c1⟩]
    by_cases c2 : q < i - 1
    · rw [if_pos ⟨by omega, c2⟩]
      exact hA _ _ (by omega) (by omega) (by omega)
    · rw [if_neg (by omega)]
      by_cases c3 : q = i - 1
      · rw [if_pos c3]
        exact lo _ (by omega) (by omega)
      · rw [if_neg c3]
        exact hA _ _ (by omega) (by omega) hq
  · rw [if_neg (by omega), if_neg (show ¬ (a ≤ q ∧ q < i - 1) by omega), if_neg (show ¬ q = i - 1 by omega)]
    by_cases c3 : p = i - 1
    · rw [if_pos c3]
      exact hi _ (by omega) hq
    · rw [if_neg c3]
      exact hA _ _ (by omega) hpq hq
theorem asc_dn (hS : SWO lt) {a i m : Nat} {d d' : Array α} (h : Dn m i d d') (hA : Asc lt ix a m d) (h1 : a ≤ i) (h2 : i ≤ m) (h3 : i = a ∨ Bef lt ix d[i - 1]! d[m]!) (h4 : i = m ∨ Bef lt ix d[m]! d[i]!) : Asc lt ix a (m + 1) d' := by
  intro p q hp hpq hq
  rw [h.2, h.2]
  have lo : ∀ x, a ≤ x → x < i → Bef lt ix d[x]! d[m]! := fun x hx hx2 => by
    rcases h3 with h3 | h3
    · omega
    · by_cases e : x = i - 1
      · rw [e]; exact h3
      · exact (hA x (i - 1) hx (by omega) (by omega)).trans hS h3
  have hi : ∀ x, i ≤ x → x < m → Bef lt ix d[m]! d[x]! := fun x hx hx2 => by
    rcases h4 with h4 | h4
    · omega
    · by_cases e : x = i
      · rw [e]; exact h4
      · exact h4.trans hS (hA i x (by omega) (by omega) hx2)
  by_cases c1 : p < i
  · rw [if_neg (show ¬ (i < p ∧ p ≤ m) by omega), if_neg (show ¬ p = i by omega)]
    by_cases c2 : q < i
    · rw [if_neg (by omega), if_neg (by omega)]
      exact hA _ _ hp hpq (by omega)
    · by_cases c3 : q = i
      · rw [if_neg (by omega), if_pos c3]
        exact lo _ hp c1
      · rw [if_pos (by omega)]
        exact hA _ _ hp (by omega) (by omega)
  · rw [if_pos (show i < q ∧ q ≤ m by omega)]
    by_cases c3 : p = i
    · rw [if_neg (by omega), if_pos c3]
      exact hi _ (by omega) (by omega)
    · rw [if_pos (by omega)]
      exact hA _ _ (by omega) (by omega) (by omega)

/- Ranges exchanged; a rotation. -/
def Swr (a b n : Nat) (d d' : Array α) : Prop := d'.size = d.size ∧ ∀ p, d'[p]! = if a ≤ p ∧ p < a + n then d[p - a + b]! else if b ≤ p ∧ p < b + n then d[p - b + a]! else d[p]!
theorem Swr.refl (a b : Nat) (d : Array α) : Swr a b 0 d d := ⟨rfl, fun p => by rw [if_neg (by omega), if_neg (by omega)]⟩
theorem Swr.step {a b n N : Nat} {d d' : Array α} (h : Swr a b n d d') (hn : n < N) (hab : a + N ≤ b) (hb : b + N ≤ d.size) : Swr a b (n + 1) d (swp d' (a + n) (b + n)) := by
  refine ⟨by rw [swp_size, h.1], fun p => ?_⟩
  rw [swp_get d' (by rw [h.1]; omega) (by rw [h.1]; omega), h.2, h.2, h.2]
  by_cases h1 : p = b + n
  · subst h1
    rw [if_pos rfl, if_neg (by omega), if_neg (by omega), if_neg (by omega), if_pos (by omega)]
    congr 1; omega
  · rw [if_neg h1]
    by_cases h2 : p = a + n
    · subst h2
      rw [if_pos rfl, if_neg (by omega), if_neg (by omega), if_pos (by omega)]
      congr 1; omega
    · rw [if_neg h2]
      by_cases h3 : a ≤ p ∧ p < a + n
      · rw [if_pos h3, if_pos (by omega)]
      · rw [if_neg h3, if_neg (show ¬ (a ≤ p ∧ p < a + (n + 1)) by omega)]
        by_cases h4 : b ≤ p ∧ p < b + n
        · rw [if_pos h4, if_pos (by omega)]
        · rw [if_neg h4, if_neg (by omega)]
def Rot (a m b : Nat) (d d' : Array α) : Prop := d'.size = d.size ∧ ∀ p, d'[p]! = if a ≤ p ∧ p < a + (b - m) then d[p - a + m]! else if a + (b - m) ≤ p ∧ p < b then d[p - (b - m)]! else d[p]!
theorem Rot.none {a m b : Nat} {d : Array α} (h : a = m ∨ m = b) (h1 : a ≤ m) (h2 : m ≤ b) : Rot a m b d d := by
  refine ⟨rfl, fun p => ?_⟩
  rcases h with rfl | rfl
  · split
    · congr 1; omega
    · rw [if_neg (by omega)]
  · rw [if_neg (by omega)]
    split
    · congr 1; omega
    · rfl
theorem rot_eq {m i : Nat} {d d' : Array α} (hi : i ≤ m) (h : Swr (m - i) m i d d') : Rot (m - i) m (m + i) d d' := by
  refine ⟨h.1, fun p => ?_⟩
  rw [h.2]
  by_cases c : m - i ≤ p ∧ p < m - i + i
  · rw [if_pos c, if_pos (by omega)]
  · rw [if_neg c]
    by_cases c2 : m ≤ p ∧ p < m + i
    · rw [if_pos c2, if_neg (by omega), if_pos (by omega)]
      congr 1; omega
    · rw [if_neg c2, if_neg (by omega), if_neg (by omega)]
theorem rot_gt {m i j : Nat} {d d' d2 : Array α} (hi : i ≤ m) (hij : j < i) (h : Swr (m - i) m j d d') (h2 : Rot (m - (i - j)) m (m + j) d' d2) : Rot (m - i) m (m + j) d d2 := by
  refine ⟨h2.1.trans h.1, fun p => ?_⟩
  rw [h2.2]
  by_cases c : m - (i - j) ≤ p ∧ p < m - (i - j) + (m + j - m)
  · rw [if_pos c, h.2, if_neg (by omega), if_pos (by omega), if_neg (by omega), if_pos (by omega)]
    congr 1; omega
  · rw [if_neg c]
    by_cases c2 : m - (i - j) + (m + j - m) ≤ p ∧ p < m + j
    · rw [if_pos c2, h.2, if_neg (by omega), if_neg (by omega), if_neg (by omega), if_pos (by omega)]
    · rw [if_neg c2, h.2]
      by_cases c3 : m - i ≤ p ∧ p < m - i + j
      · rw [if_pos c3, if_pos (by omega)]
      · rw [if_neg c3, if_neg (by omega), if_neg (by omega), if_neg (by omega)]
theorem rot_lt {m i j : Nat} {d d' d2 : Array α} (hi : i ≤ m) (hij : i < j) (h : Swr (m - i) (m + j - i) i d d') (h2 : Rot (m - i) m (m + (j - i)) d' d2) : Rot (m - i) m (m + j) d d2 := by
  refine ⟨h2.1.trans h.1, fun p => ?_⟩
  rw [h2.2]
  by_cases c : m - i ≤ p ∧ p < m - i + (m + (j - i) - m)
  · rw [if_pos c, h.2, if_neg (by omega), if_neg (by omega), if_pos (by omega)]
  · rw [if_neg c]
    by_cases c2 : m - i + (m + (j - i) - m) ≤ p ∧ p < m + (j - i)
    · rw [if_pos c2, h.2, if_pos (by omega)]
      by_cases c5 : m - i ≤ p ∧ p < m - i + (m + j - m)
      · rw [if_pos c5]; congr 1; omega
      · omega
    · rw [if_neg c2, h.2]
      by_cases c3 : m + j - i ≤ p ∧ p < m + j - i + i
      · rw [if_neg (by omega), if_pos c3, if_neg (by omega), if_pos (by omega)]
        congr 1; omega
      · rw [if_neg (by omega), if_neg c3, if_neg (by omega), if_neg (by omega)]

/- The middle of a merge. -/
structure Sym (lt : α → α → Bool) (ix : α → Nat) (a m b mid s e : Nat) (d d' : Array α) : Prop where
  lo1 : Asc lt ix a s d'
  lo2 : Asc lt ix s mid d'
  loc : Cross ix a s mid d'
  hi1 : Asc lt ix mid e d'
  hi2 : Asc lt ix e b d'
  hic : Cross ix mid e b d'
  mix : ∀ p q, a ≤ p → p < mid → mid ≤ q → q < b → Bef lt ix d'[p]! d'[q]!

theorem sym_of (hS : SWO lt) {a m b mid s e : Nat} {d d' : Array α} (hm : a < m) (hmid : mid = (a + b) / 2) (he : e + s = mid + m) (h1 : Asc lt ix a m d) (h2 : Asc lt ix m b d) (hc : Cross ix a m b d)
    (hs0 : if mid < m then mid + m ≤ s + b ∧ s ≤ mid else a ≤ s ∧ s ≤ m)
    (hlow : (if mid < m then s + b = mid + m else s = a) ∨ lt d[e]! d[s - 1]! = false) (hhigh : (if mid < m then s = mid else s = m) ∨ lt d[e - 1]! d[s]! = true) (hr : Rot s m e d d') : Sym lt ix a m b mid s e d d' ∧ a ≤ s ∧ s ≤ mid ∧ s ≤ m ∧ mid ≤ e ∧ m ≤ e ∧ e ≤ b := by
  have k1 : a ≤ s := by split at hs0 <;> omega
  have k2 : s ≤ mid := by split at hs0 <;> omega
  have k3 : s ≤ m := by split at hs0 <;> omega
  have k4 : m ≤ e := by omega
  have k5 : mid ≤ e := by omega
  have k6 : e ≤ b := by split at hs0 <;> omega
  have g : ∀ p, d'[p]! = if s ≤ p ∧ p < mid then d[p - s + m]! else if mid ≤ p ∧ p < e then d[p - (e - m)]! else d[p]! := fun p => by
    rw [hr.2, show s + (e - m) = mid by omega]
  -- the four parts
  have L1 : ∀ p, a ≤ p → p < s → d'[p]! = d[p]! := fun p h3 h4 => by rw [g, if_neg (by omega), if_neg (by omega)]
  have R1 : ∀ p, s ≤ p → p < mid → d'[p]! = d[p - s + m]! := fun p h3 h4 => by rw [g, if_pos ⟨h3, h4⟩]
  have L2 : ∀ p, mid ≤ p → p < e → d'[p]! = d[p - (e - m)]! := fun p h3 h4 => by rw [g, if_neg (by omega), if_pos ⟨h3, h4⟩]
  have R2 : ∀ p, e ≤ p → p < b → d'[p]! = d[p]! := fun p h3 h4 => by rw [g, if_neg (by omega), if_neg (by omega)]
  have lr : ∀ p q, a ≤ p → p < s → e ≤ q → q < b → Bef lt ix d[p]! d[q]! := fun p q h3 h4 h5 h6 => by
    have hB : Bef lt ix d[s - 1]! d[e]! := by
      rcases hlow with h | h
      · split at h <;> omega
      · exact .inr ⟨h, hc _ _ (by omega) (by omega) k4 (by omega)⟩
    have hB1 : Bef lt ix d[p]! d[e]! := by
      by_cases e1 : p = s - 1
      · rw [e1]; exact hB
      · exact (h1 p (s - 1) h3 (by omega) (by omega)).trans hS hB
    by_cases e2 : q = e
    · rw [e2]; exact hB1
    · exact hB1.trans hS (h2 e q k4 (by omega) h6)
  have rl : ∀ p q, m ≤ p → p < e → s ≤ q → q < m → Bef lt ix d[p]! d[q]! := fun p q h3 h4 h5 h6 => by
    have hB : Bef lt ix d[e - 1]! d[s]! := by
      rcases hhigh with h | h
      · split at h <;> omega
      · exact .inl h
    have hB1 : Bef lt ix d[p]! d[s]! := by
      by_cases e1 : p = e - 1
      · rw [e1]; exact hB
      · exact (h2 p (e - 1) h3 (by omega) (by omega)).trans hS hB
    by_cases e2 : q = s
    · rw [e2]; exact hB1
    · exact hB1.trans hS (h1 s q k1 (by omega) h6)
  refine ⟨⟨fun p q h3 h4 h5 => ?_, fun p q h3 h4 h5 => ?_, fun p q h3 h4 h5 h6 => ?_, fun p q h3 h4 h5 => ?_, fun p q h3 h4 h5 => ?_, fun p q h3 h4 h5 h6 => ?_, fun p q h3 h4 h5 h6 => ?_⟩, k1, k2, k3, k5, k4, k6⟩
  · rw [L1 p h3 (by omega), L1 q (by omega) h5]
    exact h1 p q h3 h4 (by omega)
  · rw [R1 p h3 (by omega), R1 q (by omega) h5]
    exact h2 _ _ (by omega) (by omega) (by omega)
  · rw [L1 p h3 h4, R1 q h5 h6]
    exact hc _ _ h3 (by omega) (by omega) (by omega)
  · rw [L2 p h3 (by omega), L2 q (by omega) h5]
    exact h1 _ _ (by omega) (by omega) (by omega)
  · rw [R2 p h3 (by omega), R2 q (by omega) h5]
    exact h2 _ _ (by omega) h4 h5
  · rw [L2 p h3 h4, R2 q h5 h6]
    exact hc _ _ (by omega) (by omega) (by omega) h6
  · by_cases c1 : p < s
    · rw [L1 p h3 c1]
      by_cases c2 : q < e
      · rw [L2 q h5 c2]
        exact h1 _ _ h3 (by omega) (by omega)
      · rw [R2 q (by omega) h6]
        exact lr p q h3 c1 (by omega) h6
    · rw [R1 p (by omega) h4]
      by_cases c2 : q < e
      · rw [L2 q h5 c2]
        exact rl _ _ (by omega) (by omega) (by omega) (by omega)
      · rw [R2 q (by omega) h6]
        exact h2 _ _ (by omega) (by omega) h6

theorem asc_join {a mid b : Nat} {d1 d2 d3 : Array α} (h2 : PermIn a mid d1 d2) (h3 : PermIn mid b d2 d3) (hb : b ≤ d1.size) (hm : mid ≤ b) (hA : Asc lt ix a mid d2) (hB : Asc lt ix mid b d3) (hx : ∀ p q, a ≤ p → p < mid → mid ≤ q → q < b → Bef lt ix d1[p]! d1[q]!) : Asc lt ix a b d3 := by
  have hlo : ∀ p, p < mid → d3[p]! = d2[p]! := fun p hp => h3.2.1 p (.inl hp)
  have hhi : ∀ p, mid ≤ p → d2[p]! = d1[p]! := fun p hp => h2.2.1 p (.inr hp)
  have hc : ∀ p q, a ≤ p → p < mid → mid ≤ q → q < b → Bef lt ix d3[p]! d3[q]! := by
    intro p q h4 h5 h6 h7
    rw [hlo p h5]
    refine permIn_all d2 d3 mid b (fun y => Bef lt ix d2[p]! y) (by rw [h2.1]; exact hb) h3 (fun r h8 h9 => ?_) q h6 h7
    rw [hhi r h8]
    exact permIn_all d1 d2 a mid (fun x => Bef lt ix x d1[r]!) (by omega) h2 (fun x h10 h11 => hx x r h10 h11 h8 h9) p h4 h5
  intro p q h4 h5 h6
  by_cases c1 : q < mid
  · rw [hlo p (by omega), hlo q c1]
    exact hA p q h4 h5 c1
  · by_cases c2 : p < mid
    · exact hc p q h4 c2 (by omega) h6
    · exact hB p q (by omega) h5 h6
end Go.Proofs.YtccoobcggbbciaiGreatDoor.Stab
namespace Go.Proofs.YtccoobcggbbciaiGreatDoor.Stab
open Go.ChangeShapes Go.WideShapes Go.ChangeAt Go.RowKit Go.Shelf
open Go.Sort (swp swp_get swp_size SWO SWO.asymmA PermIn permIn_refl permIn_trans permIn_mono permIn_all swp_permIn)
variable {α : Type} [Inhabited α]

theorem wrapN {p : Nat} (h : p < 9223372036854775808) : IntKind.i64.wrap (p : Int) = (p : Int) := by rw [IntKind.wrap_i64]; omega

/-- What sort's stable family asks of its two functions: H tells how what is sorted lies. -/
structure LSw (H : World → Array α → Prop) (lt : α → α → Bool) (n blk g : Nat) (lb : Array Value) (sf : Nat) (sb : Array Value) : Prop where
  eg : ∀ args w, (callFunc g args).run Tryz.prog w = .ok (.enter g args) w
  less : ∀ W d, H W d → ∀ i j : Nat, i < n → j < n → Calls Tryz.prog g (#[.int .i64 (i : Int), .int .i64 (j : Int)] ++ lb) W fun e w' => e = .returned (.bool (lt d[i]! d[j]!)) ∧ H w' d ∧ W.grownBy w' (some blk)
  swap : ∀ W d, H W d → ∀ i j : Nat, i < n → j < n → ∃ W', (callFunc sf (#[.int .i64 (i : Int), .int .i64 (j : Int)] ++ sb)).run Tryz.prog W = .ok (.value (.tuple #[])) W' ∧ H W' (swp d i j) ∧ W.grownBy W' (some blk)
  alloc : ∀ W d o, H W d → H (W.alloc o) d
  size : ∀ W d, H W d → d.size = n
  low : ∀ W d, H W d → blk < W.heap.size

/-- The box of both functions. -/
def boxO (g : Nat) (lb : Array Value) (sf : Nat) (sb : Array Value) : Obj := .cells #[.func (.func g) #[] lb, .func (.func sf) #[] sb] 115
/-- What holds behind the box. -/
structure BX (H : World → Array α → Prop) (blk g : Nat) (lb : Array Value) (sf : Nat) (sb : Array Value) (W W' : World) (d : Array α) : Prop where
  h : H W' d
  gr : W.grownBy W' (some blk)
  c0 : W'.cell? ⟨W.heap.size, 0, none⟩ = some (.func (.func g) #[] lb)
  c1 : W'.cell? ⟨W.heap.size, 1, none⟩ = some (.func (.func sf) #[] sb)
theorem BX.start {H : World → Array α → Prop} {lt : α → α → Bool} {n blk g sf : Nat} {lb sb : Array Value} (hL : LSw H lt n blk g lb sf sb) {W : World} {d : Array α} (h : H W d) : BX H blk g lb sf sb W (W.alloc (.cells #[.func (.func g) #[] lb, .func (.func sf) #[] sb] 115)) d := by
  obtain ⟨c, -, -⟩ := cells_of (l := [_, _]) (heap_alloc_new W (.cells #[.func (.func g) #[] lb, .func (.func sf) #[] sb] 115))
  exact ⟨hL.alloc _ _ _ h, World.grownBy_alloc _ _ _, c 0 _ rfl, c 1 _ rfl⟩
theorem BX.step {H : World → Array α → Prop} {lt : α → α → Bool} {n blk g sf : Nat} {lb sb : Array Value} (hL : LSw H lt n blk g lb sf sb) {W W' W2 : World} {d d0 d2 : Array α} (hW : H W d0) (h : BX H blk g lb sf sb W W' d) (h2 : H W2 d2) (hg : W'.grownBy W2 (some blk)) : BX H blk g lb sf sb W W2 d2 := by
  have h0 := hL.low _ _ hW
  have h1 : W.heap.size < W'.heap.size := World.block_lt_of_cell? _ _ h.c0
  exact ⟨h2, h.gr.trans hg, (hg.cell_far ⟨W.heap.size, 0, none⟩ h1 (by simp; omega)).trans h.c0, (hg.cell_far ⟨W.heap.size, 1, none⟩ h1 (by simp; omega)).trans h.c1⟩
omit [Inhabited α] in
theorem BX.lt {H : World → Array α → Prop} {blk g sf : Nat} {lb sb : Array Value} {W W' : World} {d : Array α} (h : BX H blk g lb sf sb W W' d) : W.heap.size < W'.heap.size := World.block_lt_of_cell? _ _ h.c0

set_option maxRecDepth 20000 in
set_option maxHeartbeats 4000000 in
/-- swapRange. -/
theorem swapRF_any {H : World → Array α → Prop} {lt : α → α → Bool} {N blk g sf : Nat} {lb sb : Array Value} (hL : LSw H lt N blk g lb sf sb) {W : World} {d : Array α} (h : H W d) (a b n : Nat) (hab : a + n ≤ b) (hb : b + n ≤ N) (hs : N ≤ 4194304) :
    Calls Tryz.prog 157 #[.agg #[.func (.func g) #[] lb, .func (.func sf) #[] sb], .int .i64 (a : Int), .int .i64 (b : Int), .int .i64 (n : Int)] W fun r W' => r = .returned (.tuple #[]) ∧ ∃ d', H W' d' ∧ W.grownBy W' (some blk) ∧ Swr a b n d d' ∧ PermIn a (b + n) d d' := by
  have eg := hL.eg
  have H0 : Hid (H W d ∧ BX H blk g lb sf sb W (W.alloc (.cells #[.func (.func g) #[] lb, .func (.func sf) #[] sb] 115)) d) := ⟨h, BX.start hL h⟩
  have HZ : Hid (d.size = N) := hL.size _ _ h
  clear h
  go_enter Tryz.func157, Tryz.ntmps157
  go_wp2_with fail
  go_loopw [8] (fun iv wr => ∃ (j : Nat) (d' : Array α), j ≤ n ∧ iv = .int .i64 (j : Int) ∧ BX H blk g lb sf sb W wr d' ∧ Swr a b j d d' ∧ PermIn a (b + n) d d') (fun iv _ => n - (intOf iv).toNat)
  case atStart => exact ⟨0, d, Nat.zero_le _, rfl, H0.out.2, Swr.refl _ _ _, permIn_refl _ _ _⟩
  case round =>
    obtain ⟨j, d', hj, rfl, hd, hw, hp⟩ := hrel
    have hz := hw.1
    have HD : Hid (BX H blk g lb sf sb W wr d' ∧ Swr a b j d d' ∧ PermIn a (b + n) d d') := ⟨hd, hw, hp⟩
    by_cases hjn : j < n
    · obtain ⟨p, hpe⟩ : ∃ p, p = a + j := ⟨_, rfl⟩
      obtain ⟨q, hqe⟩ : ∃ q, q = b + j := ⟨_, rfl⟩
      have hzz := HZ.out
      obtain ⟨W2, hrun, hH2, hg2⟩ := hL.swap wr d' hd.h p q (by omega) (by omega)
      have HN : Hid (BX H blk g lb sf sb W W2 (swp d' p q) ∧ Swr a b (j + 1) d (swp d' p q) ∧ PermIn a (b + n) d (swp d' p q)) := ⟨hd.step hL H0.out.1 hH2 hg2, by rw [hpe, hqe]; exact hw.step hjn hab (by omega), permIn_trans _ _ _ _ _ hp (swp_permIn _ _ _ _ _ (by omega) (by omega) (by omega) (by omega) (by omega))⟩
      have c1 := hd.c1
      have lg := hd.lt
      have hji : (j : Int) < (n : Int) := by omega
      have e0 : (a : Int) + (j : Int) = (p : Int) := by omega
      have e1 : (b : Int) + (j : Int) = (q : Int) := by omega
      have e7 : IntKind.i64.wrap (p : Int) = (p : Int) := wrapN (by omega)
      have e8 : IntKind.i64.wrap (q : Int) = (q : Int) := wrapN (by omega)
      have e6 : j < 4194304 := by omega
      have HR : Hid (_ = _) := hrun
      clear hd hw hp H0 hz hpe hqe HD hzz hH2 hg2 hrun
      go_wp2_with fail
      rw [HR.out, Oper.upon_value]
      go_wp2_with fail
      exact ⟨⟨j + 1, _, by omega, by simp, HN.out⟩, by simp [intOf]; omega⟩
    · have hje : j = n := by omega
      subst hje
      clear hd hw hp
      go_wp2_with fail
      go_end0
      exact ⟨rfl, d', HD.out.1.h, HD.out.1.gr, HD.out.2⟩
end Go.Proofs.YtccoobcggbbciaiGreatDoor.Stab
namespace Go.Proofs.YtccoobcggbbciaiGreatDoor.Stab
open Go.ChangeShapes Go.WideShapes Go.ChangeAt Go.RowKit Go.Shelf
open Go.Sort (swp swp_get swp_size SWO SWO.asymmA PermIn permIn_refl permIn_trans permIn_mono permIn_all swp_permIn)
variable {α : Type} [Inhabited α]

set_option maxRecDepth 20000 in
set_option maxHeartbeats 4000000 in
/-- rotate. -/
theorem rotF_any {H : World → Array α → Prop} {lt : α → α → Bool} {N blk g sf : Nat} {lb sb : Array Value} (hL : LSw H lt N blk g lb sf sb) {W : World} {d : Array α} (h : H W d) (a m b : Nat) (ham : a < m) (hmb : m < b) (hb : b ≤ N) (hs : N ≤ 4194304) :
    Calls Tryz.prog 135 #[.agg #[.func (.func g) #[] lb, .func (.func sf) #[] sb], .int .i64 (a : Int), .int .i64 (m : Int), .int .i64 (b : Int)] W fun r W' => r = .returned (.tuple #[]) ∧ ∃ d', H W' d' ∧ W.grownBy W' (some blk) ∧ Rot a m b d d' ∧ PermIn a b d d' := by
  have H0 : Hid (H W d ∧ BX H blk g lb sf sb W (W.alloc (.cells #[.func (.func g) #[] lb, .func (.func sf) #[] sb] 115)) d) := ⟨h, BX.start hL h⟩
  have HZ : Hid (d.size = N) := hL.size _ _ h
  obtain ⟨i0, hi0⟩ : ∃ i0, i0 = m - a := ⟨_, rfl⟩
  obtain ⟨j0, hj0⟩ : ∃ j0, j0 = b - m := ⟨_, rfl⟩
  have x0 : (m : Int) - (a : Int) = (i0 : Int) := by omega
  have x1 : (b : Int) - (m : Int) = (j0 : Int) := by omega
  have x2 : IntKind.i64.wrap (i0 : Int) = (i0 : Int) := wrapN (by omega)
  have x3 : IntKind.i64.wrap (j0 : Int) = (j0 : Int) := wrapN (by omega)
  have HI : Hid (i0 = m - a ∧ j0 = b - m) := ⟨hi0, hj0⟩
  clear h hi0 hj0
  go_enter Tryz.func135, Tryz.ntmps135
  go_wp2_with fail
  clear x0 x1 x2 x3
  go_loopw [8, 9] (fun iv jv wr => ∃ (i j : Nat) (d' : Array α), 0 < i ∧ 0 < j ∧ a + i ≤ m ∧ m + j ≤ b ∧ iv = .int .i64 (i : Int) ∧ jv = .int .i64 (j : Int) ∧ BX H blk g lb sf sb W wr d' ∧ d'.size = N ∧ PermIn a b d d' ∧ Hid (∀ d2, Rot (m - i) m (m + j) d' d2 → Rot a m b d d2)) (fun iv jv _ => (intOf iv).toNat + (intOf jv).toNat)
  case atStart => exact ⟨i0, j0, d, by have := HI.out; omega, by have := HI.out; omega, by have := HI.out; omega, by have := HI.out; omega, rfl, rfl, H0.out.2, HZ.out, permIn_refl _ _ _, by
    have h1 := HI.out
    intro d2 h2
    rw [show m - i0 = a by omega, show m + j0 = b by omega] at h2
    exact h2⟩
  case round =>
    obtain ⟨i, j, d', hi, hj, hai, hjb, rfl, rfl, hd, hz, hp, hr⟩ := hrel
    generalize wr = wR at *
    have HD : Hid (BX H blk g lb sf sb W wR d' ∧ d'.size = N ∧ PermIn a b d d' ∧ ∀ d2, Rot (m - i) m (m + j) d' d2 → Rot a m b d d2) := ⟨hd, hz, hp, hr.out⟩
    have HB : Hid (a < m ∧ m < b ∧ b ≤ N ∧ N ≤ 4194304) := ⟨ham, hmb, hb, hs⟩
    obtain ⟨p, hpe⟩ : ∃ p, p = m - i := ⟨_, rfl⟩
    have y0 : (m : Int) - (i : Int) = (p : Int) := by omega
    have y1 : IntKind.i64.wrap (p : Int) = (p : Int) := wrapN (by omega)
    have HPE : Hid (p = m - i) := hpe
    have S1 := fun q n h1 h2 => swapRF_any hL hd.h p q n h1 h2 hs
    have hperm : ∀ (lo hi2 : Nat) (d2 : Array α), a ≤ lo → hi2 ≤ b → PermIn lo hi2 d' d2 → PermIn a b d d2 := fun lo hi2 d2 h1 h2 h3 => permIn_trans _ _ _ _ _ hp (permIn_mono _ _ _ _ _ _ h1 h2 (by omega) h3)
    have HPM : Hid (∀ (lo hi2 : Nat) (d2 : Array α), a ≤ lo → hi2 ≤ b → PermIn lo hi2 d' d2 → PermIn a b d d2) := hperm
    have HW : Hid (H W d) := H0.out.1
    have c0 := hd.c0
    have c1 := hd.c1
    have lg := hd.lt
    clear hr hperm hd hp H0
    rcases Nat.lt_trichotomy i j with hij | hij | hij
    · obtain ⟨s, hse⟩ : ∃ s, s = m + j := ⟨_, rfl⟩
      obtain ⟨q, hqe⟩ : ∃ q, q = m + j - i := ⟨_, rfl⟩
      obtain ⟨k, hke⟩ : ∃ k, k = j - i := ⟨_, rfl⟩
      have y2 : (m : Int) + (j : Int) = (s : Int) := by omega
      have y3 : (s : Int) - (i : Int) = (q : Int) := by omega
      have y4 : (j : Int) - (i : Int) = (k : Int) := by omega
      have y5 : IntKind.i64.wrap (s : Int) = (s : Int) := wrapN (by omega)
      have y6 : IntKind.i64.wrap (q : Int) = (q : Int) := wrapN (by omega)
      have y7 : IntKind.i64.wrap (k : Int) = (k : Int) := wrapN (by omega)
      have h1 : ¬ (i : Int) = (j : Int) := by omega
      have h2 : ¬ (j : Int) < (i : Int) := by omega
      have S2 := S1 q i (by omega) (by omega)
      have HQ : Hid (s = m + j ∧ q = m + j - i ∧ k = j - i ∧ i < j ∧ 0 < i ∧ 0 < j ∧ a + i ≤ m ∧ m + j ≤ b) := ⟨hse, hqe, hke, hij, hi, hj, hai, hjb⟩
      clear S1 hse hqe hke hpe hij hi hj hai hjb hz hb hs ham hmb
      go_wp2_with (go_at_call 157; refine S2.mono ?_; rintro r w5 ⟨rfl, d2, h3, hg5, h4, h5⟩; have H5 : Hid (BX H blk g lb sf sb W w5 d2 ∧ Swr p q i d' d2 ∧ PermIn p (q + i) d' d2) := ⟨HD.out.1.step hL HW.out h3 hg5, h4, h5⟩; clear h3 h4 h5 hg5 S2)
      obtain ⟨q1, q2, q3, q4, q5, q6, q7, q8⟩ := HQ.out
      have p1 := HPE.out
      refine ⟨⟨i, k, d2, q5, by omega, q7, by omega, rfl, rfl, H5.out.1, H5.out.2.2.1.trans HD.out.2.1, HPM.out _ _ _ (by omega) (by omega) H5.out.2.2, ?_⟩, by simp [intOf]; omega⟩
      intro d3 h9
      refine HD.out.2.2.2 d3 (rot_lt (by omega) q4 (d' := d2) (by rw [← p1, ← q2]; exact H5.out.2.1) (by rw [← q3]; exact h9))
    · subst hij
      have S2 := S1 m i (by omega) (by omega)
      have HQ : Hid (0 < i ∧ a + i ≤ m ∧ m + i ≤ b) := ⟨hi, hai, hjb⟩
      clear S1 hpe hi hj hai hjb hz hb hs ham hmb
      go_wp2_with (go_at_call 157; refine S2.mono ?_; rintro r w5 ⟨rfl, d2, h3, hg5, h4, h5⟩; have H5 : Hid (BX H blk g lb sf sb W w5 d2 ∧ Swr p m i d' d2 ∧ PermIn p (m + i) d' d2) := ⟨HD.out.1.step hL HW.out h3 hg5, h4, h5⟩; clear h3 h4 h5 hg5 S2)
      go_end0
      obtain ⟨q1, q2, q3⟩ := HQ.out
      have p1 := HPE.out
      refine ⟨rfl, d2, H5.out.1.h, H5.out.1.gr, HD.out.2.2.2 d2 (rot_eq (by omega) (by rw [← p1]; exact H5.out.2.1)), HPM.out _ _ _ (by omega) (by omega) H5.out.2.2⟩
    · obtain ⟨k, hke⟩ : ∃ k, k = i - j := ⟨_, rfl⟩
      have y4 : (i : Int) - (j : Int) = (k : Int) := by omega
      have y7 : IntKind.i64.wrap (k : Int) = (k : Int) := wrapN (by omega)
      have h1 : ¬ (i : Int) = (j : Int) := by omega
      have h2 : (j : Int) < (i : Int) := by omega
      have S2 := S1 m j (by omega) (by omega)
      have HQ : Hid (k = i - j ∧ j < i ∧ 0 < i ∧ 0 < j ∧ a + i ≤ m ∧ m + j ≤ b) := ⟨hke, hij, hi, hj, hai, hjb⟩
      clear S1 hke hpe hij hi hj hai hjb hz hb hs ham hmb
      go_wp2_with (go_at_call 157; refine S2.mono ?_; rintro r w5 ⟨rfl, d2, h3, hg5, h4, h5⟩; have H5 : Hid (BX H blk g lb sf sb W w5 d2 ∧ Swr p m j d' d2 ∧ PermIn p (m + j) d' d2) := ⟨HD.out.1.step hL HW.out h3 hg5, h4, h5⟩; clear h3 h4 h5 hg5 S2)
      obtain ⟨q1, q2, q3, q4, q5, q6⟩ := HQ.out
      have p1 := HPE.out
      refine ⟨⟨k, j, d2, by omega, q4, by omega, q6, rfl, rfl, H5.out.1, H5.out.2.2.1.trans HD.out.2.1, HPM.out _ _ _ (by omega) (by omega) H5.out.2.2, ?_⟩, by simp [intOf]; omega⟩
      intro d3 h9
      refine HD.out.2.2.2 d3 (rot_gt (by omega) q2 (d' := d2) (by rw [← p1]; exact H5.out.2.1) (by rw [← q1]; exact h9))
end Go.Proofs.YtccoobcggbbciaiGreatDoor.Stab
