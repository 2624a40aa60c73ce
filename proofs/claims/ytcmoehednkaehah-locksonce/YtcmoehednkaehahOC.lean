import Derived.Test.YtcmoehednkaehahOB
namespace Go.Proofs.Ytcmoehednkaehah.Once
open Go.Proofs.Ytcmoehednkaehah

/-- What is left to do of a stretch: acts that are left, and how many locks are held. -/
def leftF : List Ac → Nat → Int
  | [], _ => 0
  | _ :: _, 0 => 0
  | a :: r, h + 1 => if a.d = 2 then leftF r (h + 2) else if a.d = 3 then leftF r h else a.n + leftF r (h + 1)

def depF : List Ac → Nat → Nat
  | [], h => h
  | a :: r, h => depF r (if a.d = 2 then h + 1 else if a.d = 3 then h - 1 else h)

def Pos (l : List Ac) : Prop := ∀ a ∈ l, a.d ≠ 2 → a.d ≠ 3 → 1 ≤ a.n

theorem Pos.tail {a : Ac} {r : List Ac} (h : Pos (a :: r)) : Pos r := fun b hb => h b (List.mem_cons_of_mem _ hb)

theorem leftF_zero (l : List Ac) : leftF l 0 = 0 := by cases l <;> rfl

theorem leftF_nonneg : ∀ (l : List Ac) (h : Nat), Pos l → 0 ≤ leftF l h
  | [], _, _ => Int.le_refl _
  | _ :: _, 0, _ => Int.le_refl _
  | a :: r, h + 1, hp => by
    rw [leftF]
    by_cases h2 : a.d = 2
    · rw [if_pos h2]; exact leftF_nonneg r _ hp.tail
    · rw [if_neg h2]
      by_cases h3 : a.d = 3
      · rw [if_pos h3]; exact leftF_nonneg r _ hp.tail
      · rw [if_neg h3]
        have := leftF_nonneg r (h + 1) hp.tail
        have := hp a List.mem_cons_self h2 h3
        omega

theorem lonF_ge : ∀ (l : List Ac) (h : Nat) (t b : Int), t ≤ b → t + leftF l h ≤ lonF l h t b ∧ b ≤ lonF l h t b
  | [], _, t, b, hb => by rw [leftF, lonF]; omega
  | a :: r, 0, t, b, hb => by
    rw [leftF_zero, lonF]
    by_cases h2 : a.d = 2
    · rw [if_pos h2]
      have := lonF_ge r (0 + 1) t (max b t) (by omega)
      omega
    · rw [if_neg h2]
      by_cases h3 : a.d = 3
      · rw [if_pos h3, if_neg (by omega)]
        have := lonF_ge r (0 - 1) t (max b t) (by omega)
        omega
      · rw [if_neg h3, if_pos rfl]
        have := lonF_ge r 0 0 (max b 0) (by omega)
        omega
  | a :: r, h + 1, t, b, hb => by
    rw [leftF, lonF]
    by_cases h2 : a.d = 2
    · rw [if_pos h2, if_pos h2]
      have := lonF_ge r (h + 1 + 1) t (max b t) (by omega)
      have e : h + 1 + 1 = h + 2 := rfl
      rw [e] at this ⊢
      omega
    · rw [if_neg h2, if_neg h2]
      by_cases h3 : a.d = 3
      · rw [if_pos h3, if_pos h3]
        by_cases hh : h + 1 = 1
        · have h0 : h = 0 := by omega
          subst h0
          rw [if_pos rfl, leftF_zero]
          have := lonF_ge r 0 0 (max b 0) (by omega)
          omega
        · rw [if_neg hh]
          have := lonF_ge r (h + 1 - 1) t (max b t) (by omega)
          have e : h + 1 - 1 = h := rfl
          rw [e] at this
          rw [e]
          omega
      · rw [if_neg h3, if_neg h3, if_neg (by omega)]
        have := lonF_ge r (h + 1) (t + a.n) (max b (t + a.n)) (by omega)
        omega

theorem lonF_pre : ∀ (pre rest : List Ac) (h : Nat) (t b : Int), Pos pre → 0 ≤ t → t ≤ b → ∃ t' b', 0 ≤ t' ∧ t' ≤ b' ∧ lonF (pre ++ rest) h t b = lonF rest (depF pre h) t' b'
  | [], rest, h, t, b, _, h0, hb => ⟨t, b, h0, hb, rfl⟩
  | a :: r, rest, h, t, b, hp, h0, hb => by
    rw [List.cons_append, lonF, depF]
    by_cases h2 : a.d = 2
    · rw [if_pos h2, if_pos h2]
      exact lonF_pre r rest (h + 1) t (max b t) hp.tail h0 (by omega)
    · rw [if_neg h2, if_neg h2]
      by_cases h3 : a.d = 3
      · rw [if_pos h3, if_pos h3]
        by_cases hh : h = 1
        · subst hh
          rw [if_pos rfl]
          exact lonF_pre r rest 0 0 (max b 0) hp.tail (Int.le_refl _) (by omega)
        · rw [if_neg hh]
          exact lonF_pre r rest (h - 1) t (max b t) hp.tail h0 (by omega)
      · rw [if_neg h3, if_neg h3]
        have hn := hp a List.mem_cons_self h2 h3
        by_cases hh : h = 0
        · subst hh
          rw [if_pos rfl]
          exact lonF_pre r rest 0 0 (max b 0) hp.tail (Int.le_refl _) (by omega)
        · rw [if_neg hh]
          exact lonF_pre r rest h (t + a.n) (max b (t + a.n)) hp.tail (by omega) (by omega)

/-- What is left of a stretch is no longer than the longest one. -/
theorem left_le (pre rest : List Ac) (hp : Pos pre) : leftF rest (depF pre 0) ≤ longF (pre ++ rest) := by
  unfold longF
  obtain ⟨t, b, h0, hb, e⟩ := lonF_pre pre rest 0 0 0 hp (Int.le_refl _) (Int.le_refl _)
  rw [e]
  have := lonF_ge rest (depF pre 0) t b hb
  omega

theorem topA_ge (p m : Int) : ∀ (l : List Ac) (b : Int), b ≤ topA p m l b
  | [], _ => Int.le_refl _
  | a :: r, b => by
    rw [topA]
    have := topA_ge p m r (if a.d = 2 ∧ a.n = m then max b p else b)
    split at this <;> rename_i h
    · rw [if_pos h]; omega
    · rw [if_neg h]; omega

theorem topA_p (p m : Int) : ∀ (l : List Ac) (b : Int) (a : Ac), a ∈ l → a.d = 2 → a.n = m → p ≤ topA p m l b
  | [], _, _, h, _, _ => by simp at h
  | x :: r, b, a, h, h2, hm => by
    rw [topA]
    rcases List.mem_cons.1 h with rfl | h
    · rw [if_pos ⟨h2, hm⟩]
      have := topA_ge p m r (max b p)
      omega
    · exact topA_p p m r _ a h h2 hm

theorem topL_ge (m : Int) : ∀ (l : List Lj) (b : Int), b ≤ topL m l b
  | [], _ => Int.le_refl _
  | x :: r, b => by
    rw [topL]
    have := topA_ge x.p m x.acts b
    have := topL_ge m r (topA x.p m x.acts b)
    omega

/-- A lock's ceiling is no less than any that takes it has. -/
theorem topL_p (m : Int) : ∀ (l : List Lj) (b : Int) (x : Lj), x ∈ l → ∀ a ∈ x.acts, a.d = 2 → a.n = m → x.p ≤ topL m l b
  | [], _, _, h, _, _, _, _ => by simp at h
  | z :: r, b, x, h, a, ha, h2, hm => by
    rw [topL]
    rcases List.mem_cons.1 h with rfl | h
    · have := topA_p x.p m x.acts b a ha h2 hm
      have := topL_ge m r (topA x.p m x.acts b)
      omega
    · exact topL_p m r _ x h a ha h2 hm
end Go.Proofs.Ytcmoehednkaehah.Once
