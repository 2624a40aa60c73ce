import Derived.Test.YtcmoehednkaehadDoorCSem
namespace Go.Proofs.YtcmoehednkaehadDoor

/-- Is an instruction that opens such a region among those that are open? -/
def amongI (l : List In) (os : List Nat) (op a : Int) : Bool := os.any fun o => decide ((l.getD o in0).op = op) && decide ((l.getD o in0).a = a)

/-- What the document does at an instruction, of the open regions. -/
def docOf (l : List In) (k : Nat) (x : In) (os : List Nat) : Int × List Nat :=
  if x.op = 13 ∨ x.op = 16 then (if amongI l os x.op x.a = true then (if x.op = 13 then 9 else 10, os) else (0, os ++ [k]))
  else if x.op = 14 then (if os = [] ∨ (l.getD (os.getLast?.getD 0) in0).op ≠ 13 ∨ (l.getD (os.getLast?.getD 0) in0).a ≠ x.a ∨ x.b ≠ (os.getLast?.getD 0 : Nat) + 1 then (9, os) else (0, os.dropLast))
  else if x.op = 17 then (if os = [] ∨ (l.getD (os.getLast?.getD 0) in0).op ≠ 16 ∨ (l.getD (os.getLast?.getD 0) in0).a ≠ x.a then (10, os) else (0, os.dropLast))
  else if x.op = 15 then (if amongI l os 13 x.a = true then (0, os) else (9, os))
  else (0, os)

def UQ (l : List In) (os : List Nat) : Prop := ∀ o ∈ os, ∀ p ∈ os, (l.getD o in0).op = (l.getD p in0).op → (l.getD o in0).a = (l.getD p in0).a → o = p

theorem among_opens (l : List In) (os : List Nat) (op a : Int) : amongI l os op a = true ↔ opens l os op a ≠ none := by
  unfold amongI opens
  simp

theorem opens_last {l : List In} {os : List Nat} {op a : Int} {o : Nat} (hu : UQ l os) (ho : os.getLast? = some o) : beginOf (opens l os op a) = beginOf os.getLast? ↔ (l.getD o in0).op = op ∧ (l.getD o in0).a = a := by
  have hm : o ∈ os := List.mem_of_getLast? ho
  rw [ho]
  constructor
  · intro h
    rcases hp : opens l os op a with _ | p
    · rw [hp] at h; simp only [beginOf] at h; omega
    · rw [hp] at h
      simp only [beginOf] at h
      have : p = o := by omega
      subst this
      unfold opens at hp
      have := List.find?_some hp
      simpa using this
  · rintro ⟨h1, h2⟩
    rcases hp : opens l os op a with _ | p
    · unfold opens at hp
      have := List.find?_eq_none.1 hp o hm
      rw [h1, h2] at this
      simp at this
    · unfold opens at hp
      have h3 := List.find?_some hp
      have h4 := List.mem_of_find?_eq_some hp
      simp at h3
      have := hu p h4 o hm (by simp only [List.getD_eq_getElem?_getD] at *; rw [h3.1, h1]) (by simp only [List.getD_eq_getElem?_getD] at *; rw [h3.2, h2])
      rw [this]

theorem doc_nest {l : List In} {os : List Nat} (hu : UQ l os) (k : Nat) (x : In) : docOf l k x os = nestOf l k x os := by
  unfold docOf nestOf
  split
  · simp only [among_opens]
  rcases ho : os.getLast? with _ | o
  · have : os = [] := List.getLast?_eq_none_iff.1 ho
    subst this
    simp [amongI, opens]
  · have hne : os ≠ [] := by rintro rfl; simp at ho
    have h13 := opens_last (op := 13) (a := x.a) hu ho
    have h16 := opens_last (op := 16) (a := x.a) hu ho
    rw [ho] at h13 h16
    simp only [hne, false_or, Option.getD_some]
    split
    · by_cases h : (l.getD o in0).op = 13 ∧ (l.getD o in0).a = x.a
      · rw [h13.2 h]; simp only [h.1, h.2, ne_eq, not_true_eq_false, false_or, beginOf]
      · have h' : ¬ (beginOf (opens l os 13 x.a) = beginOf (some o)) := fun e => h (h13.1 e)
        rw [if_pos (by simp only [ne_eq]; rcases Classical.not_and_iff_not_or_not.1 h with h | h <;> simp only [h, not_false_eq_true, true_or, or_true]), if_pos (.inl h')]
    split
    · by_cases h : (l.getD o in0).op = 16 ∧ (l.getD o in0).a = x.a
      · rw [h16.2 h]; simp only [h.1, h.2, ne_eq, not_true_eq_false, or_self]
      · have h' : ¬ (beginOf (opens l os 16 x.a) = beginOf (some o)) := fun e => h (h16.1 e)
        rw [if_pos (by simp only [ne_eq]; rcases Classical.not_and_iff_not_or_not.1 h with h | h <;> simp only [h, not_false_eq_true, true_or, or_true]), if_pos h']
    split
    · by_cases h : opens l os 13 x.a = none
      · rw [if_pos h, if_neg (fun e => (among_opens _ _ _ _).1 e h)]
      · rw [if_neg h, if_pos ((among_opens _ _ _ _).2 h)]
    · rfl

/-- Which regions stand around an instruction. -/
def Cov (rs : List (Nat × Nat)) (os : List Nat) (k o : Nat) : Prop := (∃ c, (o, c) ∈ rs ∧ o < k ∧ k ≤ c) ∨ (o ∈ os ∧ o < k)

/-- The innermost of them. -/
def Top (z : Int) (rs : List (Nat × Nat)) (os : List Nat) (k : Nat) : Prop := (z = 0 ∧ ∀ o, ¬ Cov rs os k o) ∨ ∃ o : Nat, z = (o : Int) + 1 ∧ Cov rs os k o ∧ ∀ p, Cov rs os k p → p ≤ o

theorem Top.iff {z : Int} {rs rs' : List (Nat × Nat)} {os os' : List Nat} {k : Nat} (h : Top z rs os k) (e : ∀ o, Cov rs os k o ↔ Cov rs' os' k o) : Top z rs' os' k := by
  rcases h with ⟨h1, h2⟩ | ⟨o, h1, h2, h3⟩
  · exact .inl ⟨h1, fun o c => h2 o ((e o).2 c)⟩
  · exact .inr ⟨o, h1, (e o).1 h2, fun p c => h3 p ((e p).2 c)⟩

structure NI (l : List In) (j : Nat) (os : List Nat) (rs : List (Nat × Nat)) (ws : List Int) : Prop where
  uq : UQ l os
  asc : os.Pairwise (· < ·)
  lo : ∀ o ∈ os, o < j
  rg : ∀ p ∈ rs, p.1 < p.2 ∧ p.2 < j
  un : ∀ p ∈ rs, ∀ q ∈ rs, p.1 = q.1 → p = q
  ap : ∀ p ∈ rs, p.1 ∉ os
  top : ∀ k, k < j → Top (ws.getD k 0) rs os k
  zer : ∀ k, j ≤ k → ws.getD k 0 = 0
  len : ws.length = l.length + 1

theorem asc_last {os : List Nat} (h : os.Pairwise (· < ·)) {o : Nat} (ho : os.getLast? = some o) : (∀ p ∈ os, p ≤ o) ∧ ∀ p, p ∈ os.dropLast ↔ p ∈ os ∧ p ≠ o := by
  have e : os = os.dropLast ++ [o] := by
    obtain ⟨ys, rfl⟩ := List.getLast?_eq_some_iff.1 ho
    simp
  rw [e, List.pairwise_append] at h
  obtain ⟨-, -, h3⟩ := h
  refine ⟨fun p hp => ?_, fun p => ⟨fun hp => ⟨List.dropLast_subset _ hp, fun c => ?_⟩, fun hp => ?_⟩⟩
  · rw [e] at hp
    rcases List.mem_append.1 hp with hp | hp
    · exact Nat.le_of_lt (h3 p hp o (by simp))
    · simp at hp; omega
  · have := h3 p hp o (by simp); omega
  · obtain ⟨h1, h2⟩ := hp
    rw [e] at h1
    rcases List.mem_append.1 h1 with h1 | h1
    · exact h1
    · simp at h1; exact absurd h1 h2

/-- The innermost region of the instruction that comes next. -/
theorem NI.next {l : List In} {j : Nat} {os : List Nat} {rs : List (Nat × Nat)} {ws : List Int} (h : NI l j os rs ws) : Top (beginOf os.getLast?) rs os j := by
  rcases ho : os.getLast? with _ | o
  · have : os = [] := List.getLast?_eq_none_iff.1 ho
    subst this
    refine .inl ⟨rfl, fun o c => ?_⟩
    rcases c with ⟨c, h1, h2, h3⟩ | ⟨h1, -⟩
    · have := h.rg _ h1; dsimp only at this; omega
    · simp at h1
  · refine .inr ⟨o, rfl, .inr ⟨List.mem_of_getLast? ho, h.lo _ (List.mem_of_getLast? ho)⟩, fun p c => ?_⟩
    rcases c with ⟨c, h1, h2, h3⟩ | ⟨h1, -⟩
    · have := h.rg _ h1; dsimp only at this; omega
    · exact (asc_last h.asc ho).1 p h1

theorem NI.put {l : List In} {j : Nat} {os : List Nat} {rs : List (Nat × Nat)} {ws : List Int} (h : NI l j os rs ws) (hj : j < l.length) : (∀ k, k < j + 1 → Top ((ws.set j (beginOf os.getLast?)).getD k 0) rs os k) ∧ (∀ k, j + 1 ≤ k → (ws.set j (beginOf os.getLast?)).getD k 0 = 0) ∧ (ws.set j (beginOf os.getLast?)).length = l.length + 1 := by
  have hl := h.len
  refine ⟨fun k hk => ?_, fun k hk => ?_, by simp [hl]⟩
  · by_cases e : k = j
    · subst e
      have := h.next
      rw [List.getD_eq_getElem?_getD, List.getElem?_set_self (by omega)]
      exact this
    · rw [List.getD_eq_getElem?_getD, List.getElem?_set_ne (by omega), ← List.getD_eq_getElem?_getD]
      exact h.top k (by omega)
  · rw [List.getD_eq_getElem?_getD, List.getElem?_set_ne (by omega), ← List.getD_eq_getElem?_getD]
    exact h.zer k (by omega)

theorem NI.stay {l : List In} {j : Nat} {os : List Nat} {rs : List (Nat × Nat)} {ws : List Int} (h : NI l j os rs ws) (hj : j < l.length) : NI l (j + 1) os rs (ws.set j (beginOf os.getLast?)) :=
  ⟨h.uq, h.asc, fun o ho => by have := h.lo o ho; omega, fun p hp => by have := h.rg p hp; omega, h.un, h.ap, (h.put hj).1, (h.put hj).2.1, (h.put hj).2.2⟩

theorem NI.open {l : List In} {j : Nat} {os : List Nat} {rs : List (Nat × Nat)} {ws : List Int} (h : NI l j os rs ws) (hj : j < l.length) (hn : opens l os (l.getD j in0).op (l.getD j in0).a = none) : NI l (j + 1) (os ++ [j]) rs (ws.set j (beginOf os.getLast?)) := by
  have hno : ∀ o ∈ os, ¬ ((l.getD o in0).op = (l.getD j in0).op ∧ (l.getD o in0).a = (l.getD j in0).a) := by
    intro o ho c
    unfold opens at hn
    have := List.find?_eq_none.1 hn o ho
    rw [c.1, c.2] at this
    simp at this
  refine ⟨?_, ?_, ?_, fun p hp => by have := h.rg p hp; omega, h.un, ?_, fun k hk => ?_, (h.put hj).2.1, (h.put hj).2.2⟩
  · intro o ho p hp e1 e2
    rcases List.mem_append.1 ho with ho' | ho' <;> rcases List.mem_append.1 hp with hp' | hp'
    · exact h.uq o ho' p hp' e1 e2
    · rw [List.mem_singleton] at hp'; subst hp'; exact absurd ⟨e1, e2⟩ (hno o ho')
    · rw [List.mem_singleton] at ho'; subst ho'; exact absurd ⟨e1.symm, e2.symm⟩ (hno p hp')
    · rw [List.mem_singleton] at ho' hp'; rw [ho', hp']
  · refine List.pairwise_append.2 ⟨h.asc, by simp, fun a ha b hb => ?_⟩
    rw [List.mem_singleton] at hb; subst hb; exact h.lo a ha
  · intro o ho
    rcases List.mem_append.1 ho with ho | ho
    · have := h.lo o ho; omega
    · rw [List.mem_singleton] at ho; omega
  · intro p hp c
    rcases List.mem_append.1 c with c | c
    · exact h.ap p hp c
    · rw [List.mem_singleton] at c; have := h.rg p hp; omega
  · refine ((h.put hj).1 k hk).iff fun o => ?_
    unfold Cov
    constructor
    · rintro (c | ⟨c1, c2⟩)
      · exact .inl c
      · exact .inr ⟨List.mem_append.2 (.inl c1), c2⟩
    · rintro (c | ⟨c1, c2⟩)
      · exact .inl c
      · rcases List.mem_append.1 c1 with c1 | c1
        · exact .inr ⟨c1, c2⟩
        · rw [List.mem_singleton] at c1; omega

theorem NI.shut {l : List In} {j : Nat} {os : List Nat} {rs : List (Nat × Nat)} {ws : List Int} (h : NI l j os rs ws) (hj : j < l.length) {o : Nat} (ho : os.getLast? = some o) : NI l (j + 1) os.dropLast (rs ++ [(o, j)]) (ws.set j (beginOf os.getLast?)) := by
  have hm := List.mem_of_getLast? ho
  have hd := (asc_last h.asc ho).2
  have hlo := h.lo o hm
  refine ⟨?_, ?_, ?_, ?_, ?_, ?_, fun k hk => ?_, (h.put hj).2.1, (h.put hj).2.2⟩
  · intro a ha b hb
    exact h.uq a ((hd a).1 ha).1 b ((hd b).1 hb).1
  · exact h.asc.sublist (List.dropLast_sublist _)
  · intro a ha; have := h.lo a ((hd a).1 ha).1; omega
  · intro p hp
    rcases List.mem_append.1 hp with hp | hp
    · have := h.rg p hp; omega
    · rw [List.mem_singleton] at hp; subst hp; exact ⟨hlo, by omega⟩
  · intro p hp q hq e
    rcases List.mem_append.1 hp with hp' | hp' <;> rcases List.mem_append.1 hq with hq' | hq'
    · exact h.un p hp' q hq' e
    · rw [List.mem_singleton] at hq'; subst hq'; exact absurd (by rw [e]; exact hm) (h.ap p hp')
    · rw [List.mem_singleton] at hp'; subst hp'; exact absurd (by rw [← e]; exact hm) (h.ap q hq')
    · rw [List.mem_singleton] at hp' hq'; rw [hp', hq']
  · intro p hp c
    rcases List.mem_append.1 hp with hp | hp
    · exact h.ap p hp ((hd _).1 c).1
    · rw [List.mem_singleton] at hp; subst hp; exact ((hd _).1 c).2 rfl
  · refine ((h.put hj).1 k hk).iff fun p => ?_
    unfold Cov
    constructor
    · rintro (⟨c, c1, c2⟩ | ⟨c1, c2⟩)
      · exact .inl ⟨c, List.mem_append.2 (.inl c1), c2⟩
      · by_cases e : p = o
        · subst e; exact .inl ⟨j, List.mem_append.2 (.inr (by simp)), c2, by omega⟩
        · exact .inr ⟨(hd p).2 ⟨c1, e⟩, c2⟩
    · rintro (⟨c, c1, c2⟩ | ⟨c1, c2⟩)
      · rcases List.mem_append.1 c1 with c1 | c1
        · exact .inl ⟨c, c1, c2⟩
        · rw [List.mem_singleton] at c1; cases c1; exact .inr ⟨hm, c2.1⟩
      · exact .inr ⟨((hd p).1 c1).1, c2⟩

/-- The document's walk over the regions: what is wrong, or what is open still, and the regions. -/
def docNest (l : List In) : List In → Nat → List Nat → List (Nat × Nat) → (Int × Nat) ⊕ (List Nat × List (Nat × Nat))
  | [], _, os, rs => .inr (os, rs)
  | x :: r, k, os, rs => if (docOf l k x os).1 ≠ 0 then .inl ((docOf l k x os).1, k) else docNest l r (k + 1) (docOf l k x os).2 (if x.op = 14 ∨ x.op = 17 then rs ++ [(os.getLast?.getD 0, k)] else rs)

theorem NI.step {l : List In} {j : Nat} {os : List Nat} {rs : List (Nat × Nat)} {ws : List Int} (h : NI l j os rs ws) (hj : j < l.length) (hz : (nestOf l j (l.getD j in0) os).1 = 0) : NI l (j + 1) (nestOf l j (l.getD j in0) os).2 (if (l.getD j in0).op = 14 ∨ (l.getD j in0).op = 17 then rs ++ [(os.getLast?.getD 0, j)] else rs) (ws.set j (beginOf os.getLast?)) := by
  have hl : ∀ {q : Prop}, ¬ (os = [] ∨ q) → ∃ o, os.getLast? = some o := by
    intro q hq
    rcases ho : os.getLast? with _ | o
    · exact absurd (.inl (List.getLast?_eq_none_iff.1 ho)) hq
    · exact ⟨o, rfl⟩
  unfold nestOf at hz ⊢
  by_cases h1 : (l.getD j in0).op = 13 ∨ (l.getD j in0).op = 16
  · rw [if_pos h1] at hz ⊢
    rw [if_neg (c := (l.getD j in0).op = 14 ∨ (l.getD j in0).op = 17) (by omega)]
    by_cases h2 : opens l os (l.getD j in0).op (l.getD j in0).a ≠ none
    · rw [if_pos h2] at hz; dsimp only at hz; split at hz <;> simp at hz
    · rw [if_neg h2]; exact h.open hj (by simpa using h2)
  rw [if_neg h1] at hz ⊢
  by_cases h3 : (l.getD j in0).op = 14
  · rw [if_pos h3] at hz ⊢
    rw [if_pos (c := (l.getD j in0).op = 14 ∨ (l.getD j in0).op = 17) (.inl h3)]
    split at hz
    · simp at hz
    · rename_i hq
      obtain ⟨o, ho⟩ := hl hq
      rw [if_neg hq]
      have := h.shut hj ho
      rw [ho] at this ⊢
      exact this
  rw [if_neg h3] at hz ⊢
  by_cases h4 : (l.getD j in0).op = 17
  · rw [if_pos h4] at hz ⊢
    rw [if_pos (c := (l.getD j in0).op = 14 ∨ (l.getD j in0).op = 17) (.inr h4)]
    split at hz
    · simp at hz
    · rename_i hq
      obtain ⟨o, ho⟩ := hl hq
      rw [if_neg hq]
      have := h.shut hj ho
      rw [ho] at this ⊢
      exact this
  rw [if_neg h4] at hz ⊢
  rw [if_neg (c := (l.getD j in0).op = 14 ∨ (l.getD j in0).op = 17) (by omega)]
  split
  · split <;> exact h.stay hj
  · exact h.stay hj

/-- The document's walk over the regions against the program's. -/
theorem doc_scan {l : List In} : ∀ (n j : Nat) (os : List Nat) (rs : List (Nat × Nat)) (ws : List Int), l.length - j = n → j ≤ l.length → NI l j os rs ws →
    (∃ e, nestScan l (l.drop j) j os ws = .inl e ∧ docNest l (l.drop j) j os rs = .inl e) ∨ ∃ os' rs' ws', nestScan l (l.drop j) j os ws = .inr (os', ws') ∧ docNest l (l.drop j) j os rs = .inr (os', rs') ∧ NI l l.length os' rs' ws' := by
  intro n
  induction n with
  | zero =>
    intro j os rs ws hn hj h
    have : j = l.length := by omega
    subst this
    rw [List.drop_length]
    exact .inr ⟨os, rs, ws, rfl, rfl, h⟩
  | succ n ih =>
    intro j os rs ws hn hj h
    have hlt : j < l.length := by omega
    rw [nestScan_at _ hlt, drop_at hlt, docNest, doc_nest h.uq]
    by_cases hz : (nestOf l j (l.getD j in0) os).1 ≠ 0
    · rw [if_pos hz, if_pos hz]; exact .inl ⟨_, rfl, rfl⟩
    · rw [if_neg hz, if_neg hz]
      exact ih (j + 1) _ _ _ (by omega) (by omega) (h.step hlt (by simpa using hz))

theorem NI.start (l : List In) : NI l 0 [] [] (List.replicate (l.length + 1) 0) :=
  ⟨by intro o ho; simp at ho, by simp, by simp, by simp, by simp, by simp, fun k hk => by omega, fun k _ => by rw [List.getD_eq_getElem?_getD, List.getElem?_replicate]; split <;> rfl, by simp⟩
end Go.Proofs.YtcmoehednkaehadDoor
