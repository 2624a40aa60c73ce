import Derived.Test.YtibcbdihphbfeacDoorGSRun
import Derived.Test.YtibcbdihphbfeacDoorGChkW
namespace Go.Proofs.YtibcbdihphbfeacDoor
def amongI (l : List In) (os : List Nat) (op a : Int) : Bool := os.any fun o => decide ((l.getD o in0).op = op) && decide ((l.getD o in0).a = a)
def docOf (l : List In) (k : Nat) (x : In) (os : List Nat) : Int × List Nat :=
 if x.op = 13 ∨ x.op = 16 then (if amongI l os x.op x.a = true then (if x.op = 13 then 9 else 10, os) else (0, os ++ [k]))
 else if x.op = 14 then (if os = [] ∨ (l.getD (os.getLast?.getD 0) in0).op ≠ 13 ∨ (l.getD (os.getLast?.getD 0) in0).a ≠ x.a ∨ x.b ≠ (os.getLast?.getD 0 : Nat) + 1 then (9, os) else (0, os.dropLast))
 else if x.op = 17 then (if os = [] ∨ (l.getD (os.getLast?.getD 0) in0).op ≠ 16 ∨ (l.getD (os.getLast?.getD 0) in0).a ≠ x.a then (10, os) else (0, os.dropLast))
 else if x.op = 15 then (if amongI l os 13 x.a = true then (0, os) else (9, os))
 else (0, os)
def UQ (l : List In) (os : List Nat) : Prop := ∀ o ∈ os, ∀ p ∈ os, (l.getD o in0).op = (l.getD p in0).op → (l.getD o in0).a = (l.getD p in0).a → o = p
theorem among_opens (l : List In) (os : List Nat) (op a : Int) : amongI l os op a = true ↔ opens l os op a ≠ none := by
 unfold amongI opens
 simp
theorem opens_last {l : List In} {os : List Nat} {op a : Int} {o : Nat} (hu : UQ l os) (ho : os.getLast? = some o) : beginOf (opens l os op a) = beginOf os.getLast? ↔ (l.getD o in0).op = op ∧ (l.getD o in0).a = a := by
 have hm : o ∈ os := List.mem_of_getLast? ho
 rw [ho]
 constructor
 ·intro h
  rcases hp : opens l os op a with _ | p
  ·rw [hp] at h; simp only [beginOf] at h; omega
  ·rw [hp] at h
   simp only [beginOf] at h
   have : p = o := by omega
   subst this
   unfold opens at hp
   have := List.find?_some hp
   simpa using this
 ·rintro ⟨h1, h2⟩
  rcases hp : opens l os op a with _ | p
  ·unfold opens at hp
   have := List.find?_eq_none.1 hp o hm
   rw [h1, h2] at this
   simp at this
  ·unfold opens at hp
   have h3 := List.find?_some hp
   have h4 := List.mem_of_find?_eq_some hp
   simp at h3
   have := hu p h4 o hm (by simp only [List.getD_eq_getElem?_getD] at *; rw [h3.1, h1]) (by simp only [List.getD_eq_getElem?_getD] at *; rw [h3.2, h2])
   rw [this]
theorem doc_nest {l : List In} {os : List Nat} (hu : UQ l os) (k : Nat) (x : In) : docOf l k x os = nestOf l k x os := by
 unfold docOf nestOf
 split
 ·simp only [among_opens]
 rcases ho : os.getLast? with _ | o
 ·have : os = [] := List.getLast?_eq_none_iff.1 ho
  subst this
  simp [amongI, opens]
 ·have hne : os ≠ [] := by rintro rfl; simp at ho
  have h13 := opens_last (op := 13) (a := x.a) hu ho
  have h16 := opens_last (op := 16) (a := x.a) hu ho
  rw [ho] at h13 h16
  simp only [hne, false_or, Option.getD_some]
  split
  ·by_cases h : (l.getD o in0).op = 13 ∧ (l.getD o in0).a = x.a
   ·rw [h13.2 h]; simp only [h.1, h.2, ne_eq, not_true_eq_false, false_or, beginOf]
   ·have h' : ¬ (beginOf (opens l os 13 x.a) = beginOf (some o)) := fun e => h (h13.1 e)
    rw [if_pos (by simp only [ne_eq]; rcases Classical.not_and_iff_not_or_not.1 h with h | h <;> simp only [h, not_false_eq_true, true_or, or_true]), if_pos (.inl h')]
  split
  ·by_cases h : (l.getD o in0).op = 16 ∧ (l.getD o in0).a = x.a
   ·rw [h16.2 h]; simp only [h.1, h.2, ne_eq, not_true_eq_false, or_self]
   ·have h' : ¬ (beginOf (opens l os 16 x.a) = beginOf (some o)) := fun e => h (h16.1 e)
    rw [if_pos (by simp only [ne_eq]; rcases Classical.not_and_iff_not_or_not.1 h with h | h <;> simp only [h, not_false_eq_true, true_or, or_true]), if_pos h']
  split
  ·by_cases h : opens l os 13 x.a = none
   ·rw [if_pos h, if_neg (fun e => (among_opens _ _ _ _).1 e h)]
   ·rw [if_neg h, if_pos ((among_opens _ _ _ _).2 h)]
  ·rfl
def Cov (rs : List (Nat × Nat)) (os : List Nat) (k o : Nat) : Prop := (∃ c, (o, c) ∈ rs ∧ o < k ∧ k ≤ c) ∨ (o ∈ os ∧ o < k)
def Top (z : Int) (rs : List (Nat × Nat)) (os : List Nat) (k : Nat) : Prop := (z = 0 ∧ ∀ o, ¬ Cov rs os k o) ∨ ∃ o : Nat, z = (o : Int) + 1 ∧ Cov rs os k o ∧ ∀ p, Cov rs os k p → p ≤ o
theorem Top.iff {z : Int} {rs rs' : List (Nat × Nat)} {os os' : List Nat} {k : Nat} (h : Top z rs os k) (e : ∀ o, Cov rs os k o ↔ Cov rs' os' k o) : Top z rs' os' k := by
 rcases h with ⟨h1, h2⟩ | ⟨o, h1, h2, h3⟩
 ·exact .inl ⟨h1, fun o c => h2 o ((e o).2 c)⟩
 ·exact .inr ⟨o, h1, (e o).1 h2, fun p c => h3 p ((e p).2 c)⟩
structure NI (l : List In) (j : Nat) (os : List Nat) (rs : List (Nat × Nat)) (ws : List Int) : Prop where
 uq : UQ l os
 asc : os.Pairwise (· < ·)
 lo : ∀ o ∈ os, o < j
 rg : ∀ p ∈ rs, p.1 < p.2 ∧ p.2 < j
 un : ∀ p ∈ rs, ∀ q ∈ rs, p.1 = q.1 → p = q
 ap : ∀ p ∈ rs, p.1 ∉ os
 top : ∀ k, k < j → Top (ws.getD k 0) rs os k
 zer : ∀ k, j ≤ k → ws.getD k 0 = 0
 len : ws.length = l.length + 1
theorem asc_last {os : List Nat} (h : os.Pairwise (· < ·)) {o : Nat} (ho : os.getLast? = some o) : (∀ p ∈ os, p ≤ o) ∧ ∀ p, p ∈ os.dropLast ↔ p ∈ os ∧ p ≠ o := by
 have e : os = os.dropLast ++ [o] := by
  obtain ⟨ys, rfl⟩ := List.getLast?_eq_some_iff.1 ho
  simp
 rw [e, List.pairwise_append] at h
 obtain ⟨-, -, h3⟩ := h
 refine ⟨fun p hp => ?_, fun p => ⟨fun hp => ⟨List.dropLast_subset _ hp, fun c => ?_⟩, fun hp => ?_⟩⟩
 ·rw [e] at hp
  rcases List.mem_append.1 hp with hp | hp
  ·exact Nat.le_of_lt (h3 p hp o (by simp))
  ·simp at hp; omega
 ·have := h3 p hp o (by simp); omega
 ·obtain ⟨h1, h2⟩ := hp
  rw [e] at h1
  rcases List.mem_append.1 h1 with h1 | h1
  ·exact h1
  ·simp at h1; exact absurd h1 h2
theorem NI.next {l : List In} {j : Nat} {os : List Nat} {rs : List (Nat × Nat)} {ws : List Int} (h : NI l j os rs ws) : Top (beginOf os.getLast?) rs os j := by
 rcases ho : os.getLast? with _ | o
 ·have : os = [] := List.getLast?_eq_none_iff.1 ho
  subst this
  refine .inl ⟨rfl, fun o c => ?_⟩
  rcases c with ⟨c, h1, h2, h3⟩ | ⟨h1, -⟩
  ·have := h.rg _ h1; dsimp only at this; omega
  ·simp at h1
 ·refine .inr ⟨o, rfl, .inr ⟨List.mem_of_getLast? ho, h.lo _ (List.mem_of_getLast? ho)⟩, fun p c => ?_⟩
  rcases c with ⟨c, h1, h2, h3⟩ | ⟨h1, -⟩
  ·have := h.rg _ h1; dsimp only at this; omega
  ·exact (asc_last h.asc ho).1 p h1
theorem NI.put {l : List In} {j : Nat} {os : List Nat} {rs : List (Nat × Nat)} {ws : List Int} (h : NI l j os rs ws) (hj : j < l.length) : (∀ k, k < j + 1 → Top ((ws.set j (beginOf os.getLast?)).getD k 0) rs os k) ∧ (∀ k, j + 1 ≤ k → (ws.set j (beginOf os.getLast?)).getD k 0 = 0) ∧ (ws.set j (beginOf os.getLast?)).length = l.length + 1 := by
 have hl := h.len
 refine ⟨fun k hk => ?_, fun k hk => ?_, by simp [hl]⟩
 ·by_cases e : k = j
  ·subst e
   have := h.next
   rw [List.getD_eq_getElem?_getD, List.getElem?_set_self (by omega)]
   exact this
  ·rw [List.getD_eq_getElem?_getD, List.getElem?_set_ne (by omega), ← List.getD_eq_getElem?_getD]
   exact h.top k (by omega)
 ·rw [List.getD_eq_getElem?_getD, List.getElem?_set_ne (by omega), ← List.getD_eq_getElem?_getD]
  exact h.zer k (by omega)
theorem NI.stay {l : List In} {j : Nat} {os : List Nat} {rs : List (Nat × Nat)} {ws : List Int} (h : NI l j os rs ws) (hj : j < l.length) : NI l (j + 1) os rs (ws.set j (beginOf os.getLast?)) :=
 ⟨h.uq, h.asc, fun o ho => by have := h.lo o ho; omega, fun p hp => by have := h.rg p hp; omega, h.un, h.ap, (h.put hj).1, (h.put hj).2.1, (h.put hj).2.2⟩
theorem NI.open {l : List In} {j : Nat} {os : List Nat} {rs : List (Nat × Nat)} {ws : List Int} (h : NI l j os rs ws) (hj : j < l.length) (hn : opens l os (l.getD j in0).op (l.getD j in0).a = none) : NI l (j + 1) (os ++ [j]) rs (ws.set j (beginOf os.getLast?)) := by
 have hno : ∀ o ∈ os, ¬ ((l.getD o in0).op = (l.getD j in0).op ∧ (l.getD o in0).a = (l.getD j in0).a) := by
  intro o ho c
  unfold opens at hn
  have := List.find?_eq_none.1 hn o ho
  rw [c.1, c.2] at this
  simp at this
 refine ⟨?_, ?_, ?_, fun p hp => by have := h.rg p hp; omega, h.un, ?_, fun k hk => ?_, (h.put hj).2.1, (h.put hj).2.2⟩
 ·intro o ho p hp e1 e2
  rcases List.mem_append.1 ho with ho' | ho' <;> rcases List.mem_append.1 hp with hp' | hp'
  ·exact h.uq o ho' p hp' e1 e2
  ·rw [List.mem_singleton] at hp'; subst hp'; exact absurd ⟨e1, e2⟩ (hno o ho')
  ·rw [List.mem_singleton] at ho'; subst ho'; exact absurd ⟨e1.symm, e2.symm⟩ (hno p hp')
  ·rw [List.mem_singleton] at ho' hp'; rw [ho', hp']
 ·refine List.pairwise_append.2 ⟨h.asc, by simp, fun a ha b hb => ?_⟩
  rw [List.mem_singleton] at hb; subst hb; exact h.lo a ha
 ·intro o ho
  rcases List.mem_append.1 ho with ho | ho
  ·have := h.lo o ho; omega
  ·rw [List.mem_singleton] at ho; omega
 ·intro p hp c
  rcases List.mem_append.1 c with c | c
  ·exact h.ap p hp c
  ·rw [List.mem_singleton] at c; have := h.rg p hp; omega
 ·refine ((h.put hj).1 k hk).iff fun o => ?_
  unfold Cov
  constructor
  ·rintro (c | ⟨c1, c2⟩)
   ·exact .inl c
   ·exact .inr ⟨List.mem_append.2 (.inl c1), c2⟩
  ·rintro (c | ⟨c1, c2⟩)
   ·exact .inl c
   ·rcases List.mem_append.1 c1 with c1 | c1
    ·exact .inr ⟨c1, c2⟩
    ·rw [List.mem_singleton] at c1; omega
theorem NI.shut {l : List In} {j : Nat} {os : List Nat} {rs : List (Nat × Nat)} {ws : List Int} (h : NI l j os rs ws) (hj : j < l.length) {o : Nat} (ho : os.getLast? = some o) : NI l (j + 1) os.dropLast (rs ++ [(o, j)]) (ws.set j (beginOf os.getLast?)) := by
 have hm := List.mem_of_getLast? ho
 have hd := (asc_last h.asc ho).2
 have hlo := h.lo o hm
 refine ⟨?_, ?_, ?_, ?_, ?_, ?_, fun k hk => ?_, (h.put hj).2.1, (h.put hj).2.2⟩
 ·intro a ha b hb
  exact h.uq a ((hd a).1 ha).1 b ((hd b).1 hb).1
 ·exact h.asc.sublist (List.dropLast_sublist _)
 ·intro a ha; have := h.lo a ((hd a).1 ha).1; omega
 ·intro p hp
  rcases List.mem_append.1 hp with hp | hp
  ·have := h.rg p hp; omega
  ·rw [List.mem_singleton] at hp; subst hp; exact ⟨hlo, by omega⟩
 ·intro p hp q hq e
  rcases List.mem_append.1 hp with hp' | hp' <;> rcases List.mem_append.1 hq with hq' | hq'
  ·exact h.un p hp' q hq' e
  ·rw [List.mem_singleton] at hq'; subst hq'; exact absurd (by rw [e]; exact hm) (h.ap p hp')
  ·rw [List.mem_singleton] at hp'; subst hp'; exact absurd (by rw [← e]; exact hm) (h.ap q hq')
  ·rw [List.mem_singleton] at hp' hq'; rw [hp', hq']
 ·intro p hp c
  rcases List.mem_append.1 hp with hp | hp
  ·exact h.ap p hp ((hd _).1 c).1
  ·rw [List.mem_singleton] at hp; subst hp; exact ((hd _).1 c).2 rfl
 ·refine ((h.put hj).1 k hk).iff fun p => ?_
  unfold Cov
  constructor
  ·rintro (⟨c, c1, c2⟩ | ⟨c1, c2⟩)
   ·exact .inl ⟨c, List.mem_append.2 (.inl c1), c2⟩
   ·by_cases e : p = o
    ·subst e; exact .inl ⟨j, List.mem_append.2 (.inr (by simp)), c2, by omega⟩
    ·exact .inr ⟨(hd p).2 ⟨c1, e⟩, c2⟩
  ·rintro (⟨c, c1, c2⟩ | ⟨c1, c2⟩)
   ·rcases List.mem_append.1 c1 with c1 | c1
    ·exact .inl ⟨c, c1, c2⟩
    ·rw [List.mem_singleton] at c1; cases c1; exact .inr ⟨hm, c2.1⟩
   ·exact .inr ⟨((hd p).1 c1).1, c2⟩
def docNest (l : List In) : List In → Nat → List Nat → List (Nat × Nat) → (Int × Nat) ⊕ (List Nat × List (Nat × Nat))
 | [], _, os, rs => .inr (os, rs)
 | x :: r, k, os, rs => if (docOf l k x os).1 ≠ 0 then .inl ((docOf l k x os).1, k) else docNest l r (k + 1) (docOf l k x os).2 (if x.op = 14 ∨ x.op = 17 then rs ++ [(os.getLast?.getD 0, k)] else rs)
theorem NI.step {l : List In} {j : Nat} {os : List Nat} {rs : List (Nat × Nat)} {ws : List Int} (h : NI l j os rs ws) (hj : j < l.length) (hz : (nestOf l j (l.getD j in0) os).1 = 0) : NI l (j + 1) (nestOf l j (l.getD j in0) os).2 (if (l.getD j in0).op = 14 ∨ (l.getD j in0).op = 17 then rs ++ [(os.getLast?.getD 0, j)] else rs) (ws.set j (beginOf os.getLast?)) := by
 have hl : ∀ {q : Prop}, ¬ (os = [] ∨ q) → ∃ o, os.getLast? = some o := by
  intro q hq
  rcases ho : os.getLast? with _ | o
  ·exact absurd (.inl (List.getLast?_eq_none_iff.1 ho)) hq
  ·exact ⟨o, rfl⟩
 unfold nestOf at hz ⊢
 by_cases h1 : (l.getD j in0).op = 13 ∨ (l.getD j in0).op = 16
 ·rw [if_pos h1] at hz ⊢
  rw [if_neg (c := (l.getD j in0).op = 14 ∨ (l.getD j in0).op = 17) (by omega)]
  by_cases h2 : opens l os (l.getD j in0).op (l.getD j in0).a ≠ none
  ·rw [if_pos h2] at hz; dsimp only at hz; split at hz <;> simp at hz
  ·rw [if_neg h2]; exact h.open hj (by simpa using h2)
 rw [if_neg h1] at hz ⊢
 by_cases h3 : (l.getD j in0).op = 14
 ·rw [if_pos h3] at hz ⊢
  rw [if_pos (c := (l.getD j in0).op = 14 ∨ (l.getD j in0).op = 17) (.inl h3)]
  split at hz
  ·simp at hz
  ·rename_i hq
   obtain ⟨o, ho⟩ := hl hq
   rw [if_neg hq]
   have := h.shut hj ho
   rw [ho] at this ⊢
   exact this
 rw [if_neg h3] at hz ⊢
 by_cases h4 : (l.getD j in0).op = 17
 ·rw [if_pos h4] at hz ⊢
  rw [if_pos (c := (l.getD j in0).op = 14 ∨ (l.getD j in0).op = 17) (.inr h4)]
  split at hz
  ·simp at hz
  ·rename_i hq
   obtain ⟨o, ho⟩ := hl hq
   rw [if_neg hq]
   have := h.shut hj ho
   rw [ho] at this ⊢
   exact this
 rw [if_neg h4] at hz ⊢
 rw [if_neg (c := (l.getD j in0).op = 14 ∨ (l.getD j in0).op = 17) (by omega)]
 split
 ·split <;> exact h.stay hj
 ·exact h.stay hj
theorem doc_scan {l : List In} : ∀ (n j : Nat) (os : List Nat) (rs : List (Nat × Nat)) (ws : List Int), l.length - j = n → j ≤ l.length → NI l j os rs ws →
  (∃ e, nestScan l (l.drop j) j os ws = .inl e ∧ docNest l (l.drop j) j os rs = .inl e) ∨ ∃ os' rs' ws', nestScan l (l.drop j) j os ws = .inr (os', ws') ∧ docNest l (l.drop j) j os rs = .inr (os', rs') ∧ NI l l.length os' rs' ws' := by
 intro n
 induction n with
 | zero =>
  intro j os rs ws hn hj h
  have : j = l.length := by omega
  subst this
  rw [List.drop_length]
  exact .inr ⟨os, rs, ws, rfl, rfl, h⟩
 | succ n ih =>
  intro j os rs ws hn hj h
  have hlt : j < l.length := by omega
  rw [nestScan_at _ hlt, drop_at hlt, docNest, doc_nest h.uq]
  by_cases hz : (nestOf l j (l.getD j in0) os).1 ≠ 0
  ·rw [if_pos hz, if_pos hz]; exact .inl ⟨_, rfl, rfl⟩
  ·rw [if_neg hz, if_neg hz]
   exact ih (j + 1) _ _ _ (by omega) (by omega) (h.step hlt (by simpa using hz))
theorem NI.start (l : List In) : NI l 0 [] [] (List.replicate (l.length + 1) 0) :=
 ⟨by intro o ho; simp at ho, by simp, by simp, by simp, by simp, by simp, fun k hk => by omega, fun k _ => by rw [List.getD_eq_getElem?_getD, List.getElem?_replicate]; split <;> rfl, by simp⟩
def better (i : Nat) (best : Option (Nat × Nat)) (r : Nat × Nat) : Option (Nat × Nat) :=
 if r.1 < i ∧ i ≤ r.2 ∧ (best = none ∨ (best.getD (0, 0)).1 < r.1) then some r else best
def innerOf (rs : List (Nat × Nat)) (i : Nat) : Option (Nat × Nat) := rs.foldl (better i) none
theorem inner_from (i : Nat) : ∀ (rs : List (Nat × Nat)) (b : Option (Nat × Nat)),
  (rs.foldl (better i) b = b ∨ ∃ r ∈ rs, rs.foldl (better i) b = some r ∧ r.1 < i ∧ i ≤ r.2) ∧ (∀ r ∈ rs, r.1 < i → i ≤ r.2 → ∃ q, rs.foldl (better i) b = some q ∧ r.1 ≤ q.1) ∧ (∀ q, b = some q → ∃ q', rs.foldl (better i) b = some q' ∧ q.1 ≤ q'.1)
 | [], b => ⟨.inl rfl, by simp, fun q h => ⟨q, h, Nat.le_refl _⟩⟩
 | r :: rs, b => by
  obtain ⟨h1, h2, h3⟩ := inner_from i rs (better i b r)
  rw [List.foldl_cons]
  refine ⟨?_, ?_, ?_⟩
  ·rcases h1 with h1 | ⟨q, hq, h1, h1'⟩
   ·rw [h1]
    unfold better
    split
    ·rename_i c; exact .inr ⟨r, by simp, rfl, c.1, c.2.1⟩
    ·exact .inl rfl
   ·exact .inr ⟨q, by simp [hq], h1, h1'⟩
  ·intro q hq hq1 hq2
   rcases List.mem_cons.1 hq with rfl | hq
   ·by_cases c : b = none ∨ (b.getD (0, 0)).1 < q.1
    ·have e : better i b q = some q := by unfold better; rw [if_pos ⟨hq1, hq2, c⟩]
     exact h3 q e
    ·have e : better i b q = b := by unfold better; rw [if_neg (fun x => c x.2.2)]
     rcases b with _ | p
     ·exact absurd (.inl rfl) c
     ·obtain ⟨q', a1, a2⟩ := h3 p e
      simp at c
      exact ⟨q', a1, by omega⟩
   ·exact h2 q hq hq1 hq2
  ·intro q hq
   subst hq
   by_cases c : r.1 < i ∧ i ≤ r.2 ∧ (some q = none ∨ ((some q).getD (0, 0)).1 < r.1)
   ·have e : better i (some q) r = some r := by unfold better; rw [if_pos c]
    obtain ⟨q', a1, a2⟩ := h3 r e
    have := c.2.2
    simp at this
    exact ⟨q', a1, by omega⟩
   ·have e : better i (some q) r = some q := by unfold better; rw [if_neg c]
    exact h3 q e
theorem NI.inner {l : List In} {rs : List (Nat × Nat)} {ws : List Int} (h : NI l l.length [] rs ws) {k : Nat} (hk : k ≤ l.length) : (innerOf rs k = none ∧ ws.getD k 0 = 0) ∨ ∃ r, r ∈ rs ∧ innerOf rs k = some r ∧ ws.getD k 0 = (r.1 : Int) + 1 := by
 have ht : Top (ws.getD k 0) rs [] k := by
  by_cases e : k = l.length
  ·subst e
   have := h.next
   rw [h.zer _ (Nat.le_refl _)]
   exact this
  ·exact h.top k (by omega)
 obtain ⟨h1, h2, -⟩ := inner_from k rs none
 rcases h1 with h1 | ⟨r, hr, h1, c1, c2⟩
 ·refine .inl ⟨h1, ?_⟩
  rcases ht with ⟨t1, -⟩ | ⟨o, -, t2, -⟩
  ·exact t1
  ·rcases t2 with ⟨c, a1, a2, a3⟩ | ⟨a1, -⟩
   ·obtain ⟨q, b1, -⟩ := h2 _ a1 a2 a3
    rw [h1] at b1; simp at b1
   ·simp at a1
 ·refine .inr ⟨r, hr, h1, ?_⟩
  have hc : Cov rs [] k r.1 := .inl ⟨r.2, hr, c1, c2⟩
  rcases ht with ⟨-, t1⟩ | ⟨o, t1, t2, t3⟩
  ·exact absurd hc (t1 _)
  ·have := t3 _ hc
   rcases t2 with ⟨c, a1, a2, a3⟩ | ⟨a1, -⟩
   ·obtain ⟨q, b1, b2⟩ := h2 _ a1 a2 a3
    have e := h1.symm.trans b1
    cases e
    dsimp only at b2
    rw [t1]; omega
   ·simp at a1
theorem NI.same {l : List In} {rs : List (Nat × Nat)} {ws : List Int} (h : NI l l.length [] rs ws) {k t : Nat} (hk : k ≤ l.length) (ht : t ≤ l.length) : innerOf rs k = innerOf rs t ↔ ws.getD t 0 = ws.getD k 0 := by
 rcases h.inner hk with ⟨a1, a2⟩ | ⟨r, a0, a1, a2⟩ <;> rcases h.inner ht with ⟨b1, b2⟩ | ⟨q, b0, b1, b2⟩ <;> rw [a1, a2, b1, b2]
 ·simp
 ·simp; omega
 ·simp; omega
 ·constructor
  ·intro e; cases e; rfl
  ·intro e; rw [h.un r a0 q b0 (by omega)]
def docJump (l : List In) (rs : List (Nat × Nat)) (k : Nat) (x : In) : Int :=
 if x.op ≠ 11 ∧ x.op ≠ 12 then 0
 else if x.a ≤ k ∨ (l.length : Int) < x.a ∨ innerOf rs k ≠ innerOf rs x.a.toNat then 7 else 0
theorem doc_jump {l : List In} {rs : List (Nat × Nat)} {ws : List Int} (h : NI l l.length [] rs ws) {k : Nat} (hk : k < l.length) (x : In) : docJump l rs k x = jumpErr ws k x := by
 unfold docJump jumpErr
 split
 ·rfl
 rw [h.len]
 by_cases c : x.a ≤ k ∨ (l.length : Int) < x.a
 ·rw [if_pos (by rcases c with c | c; exact .inl c; exact .inr (.inl c)), if_pos (by rcases c with c | c; exact .inl c; exact .inr (.inl (by omega)))]
 ·have hs := h.same (k := k) (t := x.a.toNat) (by omega) (by omega)
  by_cases e : innerOf rs k = innerOf rs x.a.toNat
  ·rw [if_neg (by intro z; rcases z with z | z | z; exact c (.inl z); exact c (.inr z); exact z e), if_neg (by intro z; rcases z with z | z | z; exact c (.inl z); omega; exact z (hs.1 e))]
  ·rw [if_pos (.inr (.inr e)), if_pos (.inr (.inr fun z => e (hs.2 z)))]
theorem scan_congr {f g : Nat → In → Int} : ∀ (l : List In) (k : Nat), (∀ j, j < l.length → f (k + j) (l.getD j in0) = g (k + j) (l.getD j in0)) → scan f l k = scan g l k
 | [], _, _ => rfl
 | x :: r, k, h => by
  have h0 := h 0 (by simp)
  simp at h0
  have ih := scan_congr (f := f) (g := g) r (k + 1) fun j hj => by
   have := h (j + 1) (by simpa using hj)
   rw [show k + (j + 1) = k + 1 + j by omega] at this
   exact this
  rw [scan, scan, h0, ih]
def firstOpen (l : List In) : List Nat → Option (Int × Nat)
 | [] => none
 | o :: _ => some (if (l.getD o in0).op = 13 then 9 else 10, o)
theorem doc_unclosed {l : List In} {rs : List (Nat × Nat)} {ws : List Int} : ∀ {os : List Nat}, NI l l.length os rs ws → scan (unclosedErr os) l 0 = firstOpen l os := by
 intro os h
 have aux : ∀ (n j : Nat), l.length - j = n → j ≤ l.length → (∀ o ∈ os, j ≤ o) → scan (unclosedErr os) (l.drop j) j = firstOpen l os := by
  intro n
  induction n with
  | zero =>
   intro j hn hj ho
   have : j = l.length := by omega
   subst this
   rw [List.drop_length]
   cases os with
   | nil => rfl
   | cons o os => have := ho o (by simp); have := h.lo o (by simp); omega
  | succ n ih =>
   intro j hn hj ho
   have hlt : j < l.length := by omega
   rw [scan_at _ hlt]
   by_cases c : j ∈ os
   ·have : unclosedErr os j (l.getD j in0) = if (l.getD j in0).op = 13 then 9 else 10 := by unfold unclosedErr; rw [if_pos c]
    rw [this, if_pos (by split <;> decide)]
    cases os with
    | nil => simp at c
    | cons o os =>
     have h1 := ho o (by simp)
     have : j = o := by
      rcases List.mem_cons.1 c with c | c
      ·exact c
      ·have := (List.pairwise_cons.1 h.asc).1 j c; omega
     rw [this]; rfl
   ·have : unclosedErr os j (l.getD j in0) = 0 := by unfold unclosedErr; rw [if_neg c]
    rw [this, if_neg (by simp)]
    exact ih (j + 1) (by omega) (by omega) fun o hm => by
     have := ho o hm
     have : j ≠ o := fun e => c (e ▸ hm)
     omega
 have := aux l.length 0 rfl (Nat.zero_le _) (fun o _ => Nat.zero_le o)
 simpa using this
def docI (l : List In) : Int × Int :=
 if 2000 < l.length then (2, 0) else
 match scan (fun _ x => formErr x) l 0 with
 | some (c, k) => (c, k)
 | none =>
  match docNest l l 0 [] [] with
  | .inl (c, k) => (c, k)
  | .inr (o :: _, _) => (if (l.getD o in0).op = 13 then 9 else 10, o)
  | .inr ([], rs) =>
    match scan (docJump l rs) l 0 with
    | some (c, k) => (c, k)
    | none =>
     match stackScan l 0 M0 with
     | .inl (c, k) => (c, k)
     | .inr M => if (M l.length).getD 0 ≠ 0 then (8, l.length) else (0, 0)
theorem doc_check (l : List In) : docI l = checkI l := by
 unfold docI checkI
 split
 ·rfl
 rcases scan (fun _ x => formErr x) l 0 with _ | ⟨c, k⟩
 ·have := doc_scan (l := l) l.length 0 [] [] _ rfl (Nat.zero_le _) (NI.start l)
  rw [List.drop_zero] at this
  rcases this with ⟨e, h1, h2⟩ | ⟨os, rs, ws, h1, h2, h⟩
  ·rw [h1, h2]
  ·rw [h1, h2]
   dsimp only
   rw [doc_unclosed h]
   cases os with
   | cons o os => rfl
   | nil =>
    dsimp only [firstOpen]
    rw [scan_congr (f := docJump l rs) (g := jumpErr ws) l 0 fun j hj => by rw [Nat.zero_add]; exact doc_jump h hj _]
    rcases scan (jumpErr ws) l 0 with _ | ⟨c, k⟩ <;> rfl
 ·rfl
end Go.Proofs.YtibcbdihphbfeacDoor
namespace Go.Proofs.YtibcbdihphbfeacDoor
open Go.ChangeShapes Go.WideShapes Go.ChangeAt Go.RowKit
def AtSl (w : World) (os : List Nat) (v : Value) : Prop := ∃ ad c, v = .slice ad os.length c ∧ (os = [] ∨ ∃ b o, ad = some ⟨b, o, none⟩ ∧ ∀ j, j < os.length → w.cell? ⟨b, o + j, none⟩ = some (.int .i64 ((os.getD j 0 : Nat) : Int)))
theorem AtSl.below {w w' : World} {os : List Nat} {v : Value} (h : AtSl w os v) (hb : Below w.heap.size w w') : AtSl w' os v := by
 obtain ⟨ad, c, h1, h2⟩ := h
 refine ⟨ad, c, h1, ?_⟩
 rcases h2 with h2 | ⟨b, o, h2, h3⟩
 ·exact .inl h2
 ·exact .inr ⟨b, o, h2, fun j hj => below_cell hb (h3 j hj)⟩
theorem among_yes {l : List In} {z : Nat} {r : List Nat} {op a : Int} (h : (l.getD z in0).op = op ∧ (l.getD z in0).a = a) : amongI l (z :: r) op a = true := by
 unfold amongI
 rw [List.any_cons, h.1, h.2]
 simp
theorem among_no {l : List In} {z : Nat} {r : List Nat} {op a : Int} (h : ¬ ((l.getD z in0).op = op ∧ (l.getD z in0).a = a)) : amongI l (z :: r) op a = amongI l r op a := by
 unfold amongI
 rw [List.any_cons]
 have e : (decide ((l.getD z in0).op = op) && decide ((l.getD z in0).a = a)) = false := by
  rw [← Bool.decide_and]; exact decide_eq_false h
 rw [e, Bool.false_or]
theorem below_seq' {w w1 : World} {n : Nat} (h : Below w.heap.size w w1) : Below w.heap.size w (w1.drewN n) := below_seq h below_drewN'
set_option maxRecDepth 20000 in
set_option maxHeartbeats 4000000 in
theorem among_any (w : World) (ob lb xb : Nat) (l : List In) (os : List Nat) (iv ov : Value) (op xo a xc : Int) (hob : w.cell? ⟨ob, 0, none⟩ = some ov) (hlb : w.cell? ⟨lb, 0, none⟩ = some iv) (hx0 : w.cell? ⟨xb, 0, none⟩ = some (.int .i64 xo)) (hx1 : w.cell? ⟨xb, 1, none⟩ = some (.int .i64 a)) (hx2 : w.cell? ⟨xb, 2, none⟩ = some (.int .i64 xc)) (hi : InSl w l iv) (ho : AtSl w os ov) (hlow : ∀ o ∈ os, o < l.length) (_hl : l.length ≤ 4194304) (hol : os.length ≤ 4194304) :
  Calls Tryd.prog 49 #[.int .i64 op, .pointer (some ⟨ob, 0, none⟩), .pointer (some ⟨lb, 0, none⟩), .pointer (some ⟨xb, 0, none⟩)] w fun r w' => r = .returned (.bool (amongI l os op a)) ∧ Below w.heap.size w w' := by
 obtain ⟨ad, c, rfl, hrow⟩ := ho
 obtain ⟨iad, ic, rfl, himg⟩ := hi
 have HI : Hid (_ ∧ _) := ⟨hrow, himg⟩
 have HC : Hid (_ ∧ _ ∧ _ ∧ _ ∧ _) := ⟨hob, hlb, hx0, hx1, hx2⟩
 have HL : Hid (∀ o ∈ os, o < l.length) := hlow
 clear hrow himg hlb hx0 hx1 hx2 hlow
 obtain ⟨res, hres⟩ : ∃ res, amongI l os op a = res := ⟨_, rfl⟩
 rw [hres]
 have HS : Hid (amongI l os op a = res) := hres
 clear hres
 go_enter Tryd.func49, Tryd.ntmps49
 go_wp2_with fail
 go_loopw [10] (fun i wr => ∃ j : Nat, j ≤ os.length ∧ i = .int .i64 j ∧ amongI l (os.drop j) op a = amongI l os op a ∧ Below w.heap.size w wr) (fun i _ => os.length - (intOf i).toNat)
 case atStart => exact ⟨0, Nat.zero_le _, rfl, rfl, Below.refl _ _⟩
 case round =>
  obtain ⟨j, hj, rfl, hop, hb⟩ := hrel
  by_cases hlt : j < os.length
  ·rcases HI.out.1 with h | ⟨b, o, had, hrow⟩
   ·rw [h] at hlt; simp at hlt
   subst had
   have hmem : os.getD j 0 ∈ os := by rw [List.getD_eq_getElem?_getD, List.getElem?_eq_getElem hlt]; exact List.getElem_mem hlt
   have hlow := HL.out _ hmem
   rcases HI.out.2 with h | ⟨b', o', had', himg⟩
   ·rw [h] at hlow; simp at hlow
   subst had'
   have k := below_cell hb (hrow j hlt)
   have q0 := below_cell hb (himg _ hlow).1
   have q1 := below_cell hb (himg _ hlow).2.1
   have c1 := below_cell hb HC.out.2.1
   have x1 := below_cell hb HC.out.2.2.2.1
   have hdrop : os.drop j = os.getD j 0 :: os.drop (j + 1) := by
    rw [List.getD_eq_getElem?_getD, List.getElem?_eq_getElem hlt]
    exact List.drop_eq_getElem_cons hlt
   rw [hdrop] at hop
   generalize os.getD j 0 = z at *
   have HO : Hid (amongI l (z :: os.drop (j + 1)) op a = amongI l os op a ∧ Below w.heap.size w wr) := ⟨hop, hb⟩
   clear hop hb hrow himg hdrop hmem
   have HY : Hid (((l.getD z in0).op = op ∧ (l.getD z in0).a = a → res = true) ∧ (¬ ((l.getD z in0).op = op ∧ (l.getD z in0).a = a) → amongI l (os.drop (j + 1)) op a = amongI l os op a)) := ⟨fun h => by rw [← HS.out, ← HO.out.1, among_yes h], fun h => by rw [← HO.out.1, among_no h]⟩
   generalize l.getD z in0 = y at *
   obtain ⟨yo, ya, yb⟩ := y
   dsimp only at q0 q1
   by_cases e1 : yo = op
   ·subst e1
    by_cases e2 : ya = a
    ·subst e2
     have e := HY.out.1 ⟨rfl, rfl⟩
     subst e
     go_wp2_with fail
     go_quiet (fail)
     go_wp2_with fail
     go_ret
     exact ⟨rfl, below_seq' HO.out.2⟩
    ·have f2 : (ya == a) = false := by simpa using e2
     go_wp2_with fail
     go_quiet (fail)
     go_wp2_with fail
     go_roundw
     case rel => exact ⟨j + 1, by omega, by go_num, HY.out.2 (fun h => e2 h.2), below_seq' HO.out.2⟩
     case measure => simp [intOf]; omega
   ·have f1 : (yo == op) = false := by simpa using e1
    go_wp2_with fail
    go_quiet (fail)
    go_wp2_with fail
    go_roundw
    case rel => exact ⟨j + 1, by omega, by go_num, HY.out.2 (fun h => e1 h.1), below_seq' HO.out.2⟩
    case measure => simp [intOf]; omega
  ·have hje : j = os.length := by omega
   subst hje
   have e : res = false := by rw [← HS.out, ← hop, List.drop_length]; rfl
   subst e
   go_wp2_with fail
   go_ret
   exact ⟨rfl, hb⟩
def stackEnd (l : List In) : Int × Int :=
 match stackScan l 0 M0 with
 | .inl (c, k) => (c, (k : Int))
 | .inr M => if (M l.length).getD 0 ≠ 0 then (8, (l.length : Int)) else (0, 0)
theorem stackEnd_at {l : List In} {j : Nat} {M : Int → Option Int} (hlt : j < l.length) (hsc : stackScan (l.drop j) j M = stackScan l 0 M0) : ∀ z M', stackStep M j (l.getD j in0) = (z, M') → (z ≠ 0 → stackEnd l = (z, (j : Int))) ∧ (z = 0 → stackScan (l.drop (j + 1)) (j + 1) M' = stackScan l 0 M0) := by
 intro z M' hst
 rw [stackScan_at hlt, hst] at hsc
 constructor
 ·intro hz
  rw [if_pos (by simpa using hz)] at hsc
  unfold stackEnd
  rw [← hsc]
 ·intro hz
  rw [if_neg (by simpa using hz)] at hsc
  exact hsc
structure SF (w wr : World) (mb tb : Nat) : Prop where
 bel : Below w.heap.size w wr
 res : wr.heap[w.heap.size]? = some (.cells #[.int .i64 0, .int .i64 0] 30 (0, 0))
 tak : wr.heap[tb]? = some (.cells #[.int .i64 0, .int .i64 0, .int .i64 0, .int .i64 1, .int .i64 2, .int .i64 2, .int .i64 2, .int .i64 2, .int .i64 2, .int .i64 0, .int .i64 1, .int .i64 0, .int .i64 1, .int .i64 0, .int .i64 0, .int .i64 0, .int .i64 0, .int .i64 0, .int .i64 0] 3 (0, 0))
 giv : wr.heap[tb + 1]? = some (.cells #[.int .i64 0, .int .i64 1, .int .i64 1, .int .i64 0, .int .i64 1, .int .i64 1, .int .i64 1, .int .i64 1, .int .i64 1, .int .i64 1, .int .i64 0, .int .i64 0, .int .i64 0, .int .i64 0, .int .i64 0, .int .i64 0, .int .i64 0, .int .i64 0, .int .i64 0] 3 (0, 0))
 ord : w.heap.size < mb ∧ mb < tb
theorem SF.grow {w wr w' : World} {mb tb : Nat} (h : SF w wr mb tb) (hb : Below wr.heap.size wr w') : SF w w' mb tb :=
 ⟨below_seq h.bel hb, (hb.block _ (Array.getElem?_eq_some_iff.1 h.res).1).trans h.res, (hb.block _ (Array.getElem?_eq_some_iff.1 h.tak).1).trans h.tak, (hb.block _ (Array.getElem?_eq_some_iff.1 h.giv).1).trans h.giv, h.ord⟩
theorem SF.grown {w wr w' : World} {mb tb : Nat} (h : SF w wr mb tb) (hg : wr.grownBy w' (some mb)) : SF w w' mb tb :=
 ⟨h.bel.grown hg h.bel.size (by intro k hk; cases hk; have := h.ord; omega), (hg.block _ (Array.getElem?_eq_some_iff.1 h.res).1 (by have := h.ord; simp; omega)).trans h.res, (hg.block _ (Array.getElem?_eq_some_iff.1 h.tak).1 (by have := h.ord; simp; omega)).trans h.tak, (hg.block _ (Array.getElem?_eq_some_iff.1 h.giv).1 (by have := h.ord; simp; omega)).trans h.giv, h.ord⟩
theorem takes_at {m : Nat} (h : m ≤ 18) : (#[.int .i64 0, .int .i64 0, .int .i64 0, .int .i64 1, .int .i64 2, .int .i64 2, .int .i64 2, .int .i64 2, .int .i64 2, .int .i64 0, .int .i64 1, .int .i64 0, .int .i64 1, .int .i64 0, .int .i64 0, .int .i64 0, .int .i64 0, .int .i64 0, .int .i64 0] : Array Value)[m]? = some (.int .i64 (takesOf m)) := by
 have : m = 0 ∨ m = 1 ∨ m = 2 ∨ m = 3 ∨ m = 4 ∨ m = 5 ∨ m = 6 ∨ m = 7 ∨ m = 8 ∨ m = 9 ∨ m = 10 ∨ m = 11 ∨ m = 12 ∨ m = 13 ∨ m = 14 ∨ m = 15 ∨ m = 16 ∨ m = 17 ∨ m = 18 := by omega
 rcases this with rfl | rfl | rfl | rfl | rfl | rfl | rfl | rfl | rfl | rfl | rfl | rfl | rfl | rfl | rfl | rfl | rfl | rfl | rfl <;> rfl
theorem gives_at {m : Nat} (h : m ≤ 18) : (#[.int .i64 0, .int .i64 1, .int .i64 1, .int .i64 0, .int .i64 1, .int .i64 1, .int .i64 1, .int .i64 1, .int .i64 1, .int .i64 1, .int .i64 0, .int .i64 0, .int .i64 0, .int .i64 0, .int .i64 0, .int .i64 0, .int .i64 0, .int .i64 0, .int .i64 0] : Array Value)[m]? = some (.int .i64 (putsOf m)) := by
 have : m = 0 ∨ m = 1 ∨ m = 2 ∨ m = 3 ∨ m = 4 ∨ m = 5 ∨ m = 6 ∨ m = 7 ∨ m = 8 ∨ m = 9 ∨ m = 10 ∨ m = 11 ∨ m = 12 ∨ m = 13 ∨ m = 14 ∨ m = 15 ∨ m = 16 ∨ m = 17 ∨ m = 18 := by omega
 rcases this with rfl | rfl | rfl | rfl | rfl | rfl | rfl | rfl | rfl | rfl | rfl | rfl | rfl | rfl | rfl | rfl | rfl | rfl | rfl <;> rfl
theorem SF.takes {w wr : World} {mb tb : Nat} (h : SF w wr mb tb) {m : Nat} (hm : m ≤ 18) : wr.cell? ⟨tb, m, none⟩ = some (.int .i64 (takesOf m)) := by
 unfold World.cell?; rw [h.tak]; exact takes_at hm
theorem SF.gives {w wr : World} {mb tb : Nat} (h : SF w wr mb tb) {m : Nat} (hm : m ≤ 18) : wr.cell? ⟨tb + 1, m, none⟩ = some (.int .i64 (putsOf m)) := by
 unfold World.cell?; rw [h.giv]; exact gives_at hm
theorem StF_ends {w : World} {g : Nat} {c k : Value} {a : Act} (h : w.heap[g]? = some (.cells #[c, k] 30 (0, 0))) (h2 : a.tmps[2]?.getD undef = .pointer (some ⟨g, 0, none⟩)) :
  (results Tryd.f51 a.tmps).run Tryd.prog w = .ok (.agg #[c, k]) w := by
 obtain ⟨c1, f1, l1⟩ := cells_of (l := [_, _]) h
 have c10 := c1 0 _ rfl
 have c11 := c1 1 _ rfl
 simp [results, Tryd.results51, go_sem, h2, c10, c11]
theorem sf_start (w : World) : ∃ w1, (Instr.mapUpdate 98 (.map (some (w.heap.size + 1))) (.int .i64 0) (.int .i64 0)).run Tryd.prog ((w.alloc (.cells #[.int .i64 0, .int .i64 0] 30)).alloc (.map #[] 0)) = .ok () w1 ∧ w.heap.size + 2 ≤ w1.heap.size ∧ Hid (SF w ((w1.alloc (.cells #[.int .i64 0, .int .i64 0, .int .i64 0, .int .i64 1, .int .i64 2, .int .i64 2, .int .i64 2, .int .i64 2, .int .i64 2, .int .i64 0, .int .i64 1, .int .i64 0, .int .i64 1, .int .i64 0, .int .i64 0, .int .i64 0, .int .i64 0, .int .i64 0, .int .i64 0] 3)).alloc (.cells #[.int .i64 0, .int .i64 1, .int .i64 1, .int .i64 0, .int .i64 1, .int .i64 1, .int .i64 1, .int .i64 1, .int .i64 1, .int .i64 1, .int .i64 0, .int .i64 0, .int .i64 0, .int .i64 0, .int .i64 0, .int .i64 0, .int .i64 0, .int .i64 0, .int .i64 0] 3)) (w.heap.size + 1) w1.heap.size ∧ HtAt ((w1.alloc (.cells #[.int .i64 0, .int .i64 0, .int .i64 0, .int .i64 1, .int .i64 2, .int .i64 2, .int .i64 2, .int .i64 2, .int .i64 2, .int .i64 0, .int .i64 1, .int .i64 0, .int .i64 1, .int .i64 0, .int .i64 0, .int .i64 0, .int .i64 0, .int .i64 0, .int .i64 0] 3)).alloc (.cells #[.int .i64 0, .int .i64 1, .int .i64 1, .int .i64 0, .int .i64 1, .int .i64 1, .int .i64 1, .int .i64 1, .int .i64 1, .int .i64 1, .int .i64 0, .int .i64 0, .int .i64 0, .int .i64 0, .int .i64 0, .int .i64 0, .int .i64 0, .int .i64 0, .int .i64 0] 3)) (w.heap.size + 1) 1 M0) := by
 obtain ⟨w1, hrun, hset, hg⟩ := (HtAt.made (w.alloc (.cells #[.int .i64 0, .int .i64 0] 30))).set (by omega) (z := 0) (v := 0) (by omega) (by omega)
 rw [show (w.alloc (.cells #[.int .i64 0, .int .i64 0] 30)).heap.size = w.heap.size + 1 by simp] at hrun hset hg
 have hs := hg.size
 simp at hs
 have b0 : w1.heap[w.heap.size]? = some (Obj.cells #[.int .i64 0, .int .i64 0] 30 (0, 0)) := by
  rw [hg.block _ (by first | (simp; done) | (simp; omega)) (by first | (simp; done) | (simp; omega)), Below.heap_alloc _ _ _ (by simp)]
  exact heap_alloc_new _ _
 have hb : Below w.heap.size w w1 := ((below_new w _).alloc (by simp) _).grown hg (by simp; omega) (by intro j hj; simp at hj; omega)
 refine ⟨w1, hrun, by omega, ⟨⟨(hb.alloc (by omega) _).alloc (by simp; omega) _, ?_, ?_, ?_, by omega, by omega⟩, hset.below ((below_new w1 _).alloc (by simp) _)⟩⟩
 ·rw [Below.heap_alloc _ _ _ (by simp; omega), Below.heap_alloc _ _ _ (by omega)]; exact b0
 ·rw [Below.heap_alloc _ _ _ (by simp)]; exact heap_alloc_new _ _
 ·have := heap_alloc_new (w1.alloc (.cells #[.int .i64 0, .int .i64 0, .int .i64 0, .int .i64 1, .int .i64 2, .int .i64 2, .int .i64 2, .int .i64 2, .int .i64 2, .int .i64 0, .int .i64 1, .int .i64 0, .int .i64 1, .int .i64 0, .int .i64 0, .int .i64 0, .int .i64 0, .int .i64 0, .int .i64 0] 3)) (.cells #[.int .i64 0, .int .i64 1, .int .i64 1, .int .i64 0, .int .i64 1, .int .i64 1, .int .i64 1, .int .i64 1, .int .i64 1, .int .i64 1, .int .i64 0, .int .i64 0, .int .i64 0, .int .i64 0, .int .i64 0, .int .i64 0, .int .i64 0, .int .i64 0, .int .i64 0] 3)
  simpa using this
theorem ints_of_own {w : World} {B : Nat} {v : Value} {ts : List Int} (h : w.ownsRow B 3 1 v ts.length (intVs ts)) : IntSl w ts v := by
 obtain ⟨ad, cap, rfl⟩ := owns_value h
 refine ⟨ad, cap, rfl, ?_⟩
 by_cases h0 : ts = []
 ·exact .inl h0
 obtain ⟨-, ⟨e, he⟩ | ⟨g, cap', cur, e, -, hg, -, -, -, ht⟩⟩ := h
 ·exact absurd (List.length_eq_zero_iff.1 he) h0
 cases e
 refine .inr ⟨g, 0, rfl, fun j hj => ?_⟩
 have h1 : (intVs ts)[j]? = some (.int .i64 (ts.getD j 0)) := by simp [intVs, List.getD, hj]
 rw [← ht, List.getElem?_take, if_pos (by omega)] at h1
 unfold World.cell?
 rw [hg]
 simpa using h1
theorem row_of_own {w : World} {B n c : Nat} {ad : Option Addr} {ts : List Int} (h : w.ownsRow B 3 1 (.slice ad n c) n (intVs ts)) (hn : n = ts.length) (h0 : 0 < n) : ∃ b o, ad = some ⟨b, o, none⟩ ∧ ∀ p, p < ts.length → w.cell? ⟨b, o + p, none⟩ = some (.int .i64 (ts.getD p 0)) := by
 subst hn
 obtain ⟨ad', c', e, h1 | ⟨b, o, h1, h2⟩⟩ := ints_of_own h
 ·rw [h1] at h0; simp at h0
 ·cases e; exact ⟨b, o, h1, h2⟩
theorem wp_push {w : World} {ops : Array Oper} {rest : List Oper} {o : Oper} {a : Act} {Q : Exit → Act → World → Prop} (hgd : o.guard = none) (s x : Operand)
  (ho : o.op = .call { callee := .builtin .append, args := #[s, x], argTypes := #[23, 23] }) (B : Nat) (v : Value) (ts : List Int) (t : Int) (g : Nat) (hgg : w.heap.size = g) (hs : a.eval s = v) (hx : a.eval x = .slice (some ⟨g, 0, none⟩) 1 1)
  (hown : w.ownsRow B 3 1 v ts.length (intVs ts)) (hB : B ≤ w.heap.size) (hl : ts.length ≤ 4000000)
  (h : ∀ ad c w', w'.ownsRow B 3 1 (.slice ad (ts.length + 1) c) (ts.length + 1) (intVs (ts ++ [t])) → Below B w w' → wpList Tryd.prog ops Q rest (a.put o.dst (.slice ad (ts.length + 1) c)) w') : wpList Tryd.prog ops Q (o :: rest) a (w.alloc (.cells #[.int .i64 t] 3)) := by
 subst hgg
 obtain ⟨i0, hi0, hz0, hz1, hz2⟩ := info_parts infoI
 have hown' : (w.alloc (.cells #[.int .i64 t] 3)).ownsRow B 3 1 v ts.length (intVs ts) := ownsRow_same hown (fun k _ hk => (below_new w _).block k hk)
 obtain ⟨v4, w4, hrun, ho4, hg4, -⟩ := append_two (P := Tryd.prog) (w.alloc (.cells #[.int .i64 t] 3)) B w.heap.size 23 o.type 3 i0 _ 1 8 Tryd.underlying23 hi0 hz0 hz1 hz2 rfl (by decide) v ts.length (intVs ts) hown' _ 1 [.int .i64 t] (World.ownsRow_lit w #[.int .i64 t] 1 (Nat.le_refl _) (by decide) rfl) (by intro u hu; simp at hu; subst hu; rfl) (by unfold maxLen; omega) (by omega) (by simp; omega)
 obtain ⟨vad, vcap, rfl⟩ := owns_value ho4
 refine append_known hgd s x 23 ho hs hx hrun ?_
 refine h vad vcap w4 (by simpa [intVs] using ho4) ?_
 refine (((Below.refl B w).alloc hB _).grown hg4 (by simp; omega) (fun k hk => (hown.lt k hk).1))
def RegSl (w : World) (rs : List (Nat × Nat)) (v : Value) : Prop := ∃ ad c, v = .slice ad rs.length c ∧ (rs = [] ∨ ∃ b o, ad = some ⟨b, o, none⟩ ∧ ∀ j, j < rs.length → w.cell? ⟨b, o + j * 2, none⟩ = some (.int .i64 ((rs.getD j (0, 0)).1 : Int)) ∧ w.cell? ⟨b, o + j * 2 + 1, none⟩ = some (.int .i64 ((rs.getD j (0, 0)).2 : Int)))
theorem RegSl.below {w w' : World} {rs : List (Nat × Nat)} {v : Value} (h : RegSl w rs v) (hb : Below w.heap.size w w') : RegSl w' rs v := by
 obtain ⟨ad, c, h1, h2⟩ := h
 refine ⟨ad, c, h1, ?_⟩
 rcases h2 with h2 | ⟨b, o, h2, h3⟩
 ·exact .inl h2
 ·exact .inr ⟨b, o, h2, fun j hj => ⟨below_cell hb (h3 j hj).1, below_cell hb (h3 j hj).2⟩⟩
def regVal (q : Option (Nat × Nat)) : Value := .agg #[.int .i64 ((q.getD (0, 0)).1 : Int), .int .i64 ((q.getD (0, 0)).2 : Int)]
structure InnW (w wr : World) (best : Option (Nat × Nat)) : Prop where
 bel : Below w.heap.size w wr
 res : wr.heap[w.heap.size]? = some (.cells #[.int .i64 0, .int .i64 0] 100 (0, 0))
 bst : wr.heap[w.heap.size + 1]? = some (.cells #[.int .i64 ((best.getD (0, 0)).1 : Int), .int .i64 ((best.getD (0, 0)).2 : Int)] 100 (0, 0))
theorem InnW.start (w : World) : InnW w ((w.alloc (.cells #[.int .i64 0, .int .i64 0] 100)).alloc (.cells #[.int .i64 0, .int .i64 0] 100)) none := by
 refine ⟨(below_new _ _).alloc (by simp) _, ?_, ?_⟩
 ·rw [Below.heap_alloc _ _ _ (by simp)]; exact heap_alloc_new _ _
 ·have := heap_alloc_new (w.alloc (.cells #[.int .i64 0, .int .i64 0] 100)) (.cells #[.int .i64 0, .int .i64 0] 100)
  simpa using this
theorem InnW.grow {w wr w' : World} {best : Option (Nat × Nat)} (h : InnW w wr best) (hb : Below wr.heap.size wr w') : InnW w w' best :=
 ⟨below_seq h.bel hb, (hb.block _ (Array.getElem?_eq_some_iff.1 h.res).1).trans h.res, (hb.block _ (Array.getElem?_eq_some_iff.1 h.bst).1).trans h.bst⟩
theorem InnW.take {w wr : World} {best : Option (Nat × Nat)} (h : InnW w wr best) (z1 z2 : Nat) (o : Obj) : InnW w (((wr.setCell ⟨w.heap.size + 1, 0, none⟩ (.int .i64 (z1 : Int))).setCell ⟨w.heap.size + 1, 1, none⟩ (.int .i64 (z2 : Int))).alloc o) (some (z1, z2)) := by
 refine InnW.grow ⟨(h.bel.setCell (by show w.heap.size ≤ w.heap.size + 1; omega) _).setCell (by show w.heap.size ≤ w.heap.size + 1; omega) _, ?_, ?_⟩ (below_new _ _)
 ·rw [Below.heap_setCell _ _ _ _ (by show w.heap.size ≠ w.heap.size + 1; omega), Below.heap_setCell _ _ _ _ (by show w.heap.size ≠ w.heap.size + 1; omega)]
  exact h.res
 ·have := setCell_at (i := 1) (u := .int .i64 (z2 : Int)) (setCell_at (i := 0) (u := .int .i64 (z1 : Int)) h.bst)
  simpa using this
theorem Inner_ends {w : World} {g : Nat} {c k f : Value} {a : Act} (h : w.heap[g]? = some (.cells #[c, k] 100 (0, 0))) (h4 : a.tmps[4]?.getD undef = .pointer (some ⟨g, 0, none⟩)) (h5 : a.tmps[5]?.getD undef = f) :
  (results Tryd.f50 a.tmps).run Tryd.prog w = .ok (.tuple #[.agg #[c, k], f]) w := by
 obtain ⟨c1, f1, l1⟩ := cells_of (l := [_, _]) h
 have c10 := c1 0 _ rfl
 have c11 := c1 1 _ rfl
 simp [results, Tryd.results50, go_sem, h4, h5, c10, c11]
set_option maxRecDepth 20000 in
set_option maxHeartbeats 4000000 in
theorem inner_any (w : World) (mb : Nat) (rs : List (Nat × Nat)) (lv rv : Value) (i : Nat) (_hm0 : w.cell? ⟨mb, 0, none⟩ = some lv) (hm1 : w.cell? ⟨mb, 1, none⟩ = some rv) (hr : RegSl w rs rv) (hrl : rs.length ≤ 4194304) (_hi : i ≤ 4194304) :
  Calls Tryd.prog 50 #[.pointer (some ⟨mb, 0, none⟩), .int .i64 i] w fun r w' => r = .returned (.tuple #[regVal (innerOf rs i), .bool (innerOf rs i).isSome]) ∧ Below w.heap.size w w' := by
 obtain ⟨ad, c, rfl, hrow⟩ := hr
 have HI : Hid _ := hrow
 have lm : mb < w.heap.size := World.block_lt_of_cell? w _ hm1
 clear hrow
 go_enter Tryd.func50, Tryd.ntmps50
 go_wp2_with fail
 go_loopw [7, 16] (fun f n wr => ∃ (j : Nat) (best : Option (Nat × Nat)), j ≤ rs.length ∧ f = .bool best.isSome ∧ n = .int .i64 j ∧ (rs.drop j).foldl (better i) best = innerOf rs i ∧ InnW w wr best) (fun _ n _ => rs.length - (intOf n).toNat)
 case atStart => exact ⟨0, none, Nat.zero_le _, rfl, rfl, rfl, InnW.start w⟩
 case round =>
  obtain ⟨j, best, hj, rfl, rfl, hfo, hw⟩ := hrel
  obtain ⟨bs, bf, bl⟩ := cells_of (l := [_, _]) hw.bst
  have b0 := bs 0 _ rfl
  have b1 := bs 1 _ rfl
  have bf0 := bf 0
  have bf1 := bf 1
  clear bs bf
  by_cases hlt : j < rs.length
  ·rcases HI.out with h | ⟨b, o, had, hrow⟩
   ·rw [h] at hlt; simp at hlt
   subst had
   have q0 := below_cell hw.bel (hrow j hlt).1
   have q1 := below_cell hw.bel (hrow j hlt).2
   have hdrop : rs.drop j = rs.getD j (0, 0) :: rs.drop (j + 1) := by
    rw [List.getD_eq_getElem?_getD, List.getElem?_eq_getElem hlt]
    exact List.drop_eq_getElem_cons hlt
   rw [hdrop, List.foldl_cons] at hfo
   have HW : Hid (_ ∧ _) := ⟨hfo, hw⟩
   clear hfo hw hrow hdrop
   generalize rs.getD j (0, 0) = z at *
   obtain ⟨z1, z2⟩ := z
   dsimp only at q0 q1
   by_cases e1 : z1 < i
   ·have f1 : decide ((z1 : Int) < (i : Int)) = true := by simp; omega
    have f1' : decide (z1 < i) = true := by simp; omega
    by_cases e2 : i ≤ z2
    ·have f2 : decide ((i : Int) ≤ (z2 : Int)) = true := by simp; omega
     have f2' : decide (i ≤ z2) = true := by simp; omega
     by_cases e3 : best = none ∨ (best.getD (0, 0)).1 < z1
     ·have hbt : better i best (z1, z2) = some (z1, z2) := by unfold better; rw [if_pos ⟨e1, e2, e3⟩]
      rw [hbt] at HW
      have hres := HW.out.2.take z1 z2 (.cells #[.int .i64 (z1 : Int), .int .i64 (z2 : Int)] 100)
      rcases best with _ | ⟨p1, p2⟩
      ·simp only [Option.isSome_none, Option.getD_none] at b0 b1 ⊢
       go_wp2_with fail
       go_roundw
       case rel => exact ⟨j + 1, some (z1, z2), by omega, rfl, by go_num, HW.out.1, hres⟩
       case measure => simp [intOf]; omega
      ·have e3' : p1 < z1 := by simpa using e3
       have f3 : decide ((p1 : Int) < (z1 : Int)) = true := by simp; omega
       have f3' : decide (p1 < z1) = true := by simp; omega
       simp only [Option.isSome_some, Option.getD_some] at b0 b1 ⊢
       go_wp2_with fail
       go_roundw
       case rel => exact ⟨j + 1, some (z1, z2), by omega, rfl, by go_num, HW.out.1, hres⟩
       case measure => simp [intOf]; omega
     ·have hbt : better i best (z1, z2) = best := by unfold better; rw [if_neg (fun h => e3 h.2.2)]
      rw [hbt] at HW
      rcases best with _ | ⟨p1, p2⟩
      ·exact absurd (.inl rfl) e3
      ·have e3' : ¬ p1 < z1 := by simpa using e3
       have f3 : decide ((p1 : Int) < (z1 : Int)) = false := by simp; omega
       have f3' : decide (p1 < z1) = false := by simp; omega
       simp only [Option.isSome_some, Option.getD_some] at b0 b1 ⊢
       go_wp2_with fail
       go_roundw
       case rel => exact ⟨j + 1, some (p1, p2), by omega, rfl, by go_num, HW.out.1, HW.out.2.grow (below_new _ _)⟩
       case measure => simp [intOf]; omega
    ·have f2 : decide ((i : Int) ≤ (z2 : Int)) = false := by simp; omega
     have f2' : decide (i ≤ z2) = false := by simp; omega
     have hbt : better i best (z1, z2) = best := by unfold better; rw [if_neg (fun h => e2 h.2.1)]
     rw [hbt] at HW
     go_wp2_with fail
     go_roundw
     case rel => exact ⟨j + 1, best, by omega, rfl, by go_num, HW.out.1, HW.out.2.grow (below_new _ _)⟩
     case measure => simp [intOf]; omega
   ·have f1 : decide ((z1 : Int) < (i : Int)) = false := by simp; omega
    have f1' : decide (z1 < i) = false := by simp; omega
    have hbt : better i best (z1, z2) = best := by unfold better; rw [if_neg (fun h => e1 h.1)]
    rw [hbt] at HW
    go_wp2_with fail
    go_roundw
    case rel => exact ⟨j + 1, best, by omega, rfl, by go_num, HW.out.1, HW.out.2.grow (below_new _ _)⟩
    case measure => simp [intOf]; omega
  ·have hje : j = rs.length := by omega
   subst hje
   rw [List.drop_length, List.foldl_nil] at hfo
   obtain ⟨rs', rf, rl⟩ := cells_of (l := [_, _]) hw.res
   have r0 := rs' 0 _ rfl
   have r1 := rs' 1 _ rfl
   have rf0 := rf 0
   have rf1 := rf 1
   clear rs' rf
   have HF : Hid (best = innerOf rs i) := hfo
   have HW : Hid _ := hw
   clear hw hfo
   go_wp2_with fail
   exact bodyPost_ret (v := .tuple #[regVal best, .bool best.isSome]) (Inner_ends (by simpa using setCell_at (i := 1) (u := .int .i64 ((best.getD (0, 0)).2 : Int)) (setCell_at (i := 0) (u := .int .i64 ((best.getD (0, 0)).1 : Int)) HW.out.res)) rfl rfl) rfl ⟨by rw [HF.out], (HW.out.bel.setCell (Nat.le_refl _) _).setCell (Nat.le_refl _) _⟩
def natI (os : List Nat) : List Int := os.map fun (o : Nat) => (o : Int)
def regVs : List (Nat × Nat) → List Value
 | [] => []
 | r :: t => .int .i64 (r.1 : Int) :: .int .i64 (r.2 : Int) :: regVs t
theorem regVs_append (a b : List (Nat × Nat)) : regVs (a ++ b) = regVs a ++ regVs b := by
 induction a with
 | nil => rfl
 | cons r t ih => rw [List.cons_append, regVs, regVs, ih, List.cons_append, List.cons_append]
theorem regVs_at : ∀ (rs : List (Nat × Nat)) (j : Nat), j < rs.length → (regVs rs)[j * 2]? = some (.int .i64 ((rs.getD j (0, 0)).1 : Int)) ∧ (regVs rs)[j * 2 + 1]? = some (.int .i64 ((rs.getD j (0, 0)).2 : Int))
 | [], j, h => by simp at h
 | r :: t, 0, _ => ⟨rfl, rfl⟩
 | r :: t, j + 1, h => by
  have := regVs_at t j (by simpa using h)
  rw [regVs, show (j + 1) * 2 = j * 2 + 1 + 1 by omega, show j * 2 + 1 + 1 + 1 = (j * 2 + 1) + 1 + 1 by omega]
  simpa using this
theorem natI_length (os : List Nat) : (natI os).length = os.length := by simp [natI]
theorem natI_append (a b : List Nat) : natI (a ++ b) = natI a ++ natI b := by simp [natI]
theorem at_of_own {w : World} {B : Nat} {v : Value} {os : List Nat} (h : w.ownsRow B 3 1 v os.length (intVs (natI os))) : AtSl w os v := by
 rw [← natI_length] at h
 obtain ⟨ad, c, e, h2⟩ := ints_of_own h
 rw [natI_length] at e
 refine ⟨ad, c, e, ?_⟩
 rcases h2 with h2 | ⟨b, o, h2, h3⟩
 ·exact .inl (by simpa [natI] using h2)
 ·refine .inr ⟨b, o, h2, fun j hj => ?_⟩
  have := h3 j (by rw [natI_length]; exact hj)
  rw [this]
  simp [natI, List.getD, hj]
theorem reg_of_own {w : World} {B : Nat} {v : Value} {rs : List (Nat × Nat)} (h : w.ownsRow B 100 2 v rs.length (regVs rs)) : RegSl w rs v := by
 obtain ⟨ad, cap, rfl⟩ := owns_value h
 refine ⟨ad, cap, rfl, ?_⟩
 by_cases h0 : rs = []
 ·exact .inl h0
 have h' := h
 obtain ⟨-, ⟨e, he⟩ | ⟨g, cap', cur, e, -, hg, -, -, -, ht⟩⟩ := h'
 ·exact absurd (List.length_eq_zero_iff.1 he) h0
 cases e
 refine .inr ⟨g, 0, rfl, fun j hj => ?_⟩
 obtain ⟨h1, h2⟩ := regVs_at rs j hj
 rw [Nat.zero_add]
 exact ⟨(h.cellAt (j * 2) (by omega)).trans h1, (h.cellAt (j * 2 + 1) (by omega)).trans h2⟩
theorem ownsRow_keep {w w' : World} {B n size : Nat} {e : TypeId} {v : Value} {xs : List Value} (h : w.ownsRow B e size v n xs) (hs : ∀ k, v.ownBlock = some k → w'.heap[k]? = w.heap[k]?) : w'.ownsRow B e size v n xs := by
 obtain ⟨hl, h | ⟨g, cap, cur, he, hb, hg, hr⟩⟩ := h
 ·exact ⟨hl, .inl h⟩
 ·exact ⟨hl, .inr ⟨g, cap, cur, he, hb, (hs g (by rw [he]; rfl)).trans hg, hr⟩⟩
structure RS (w wr : World) (mb : Nat) (iv : Value) (l : List In) (os : List Nat) (ov : Value) (rs : List (Nat × Nat)) (gv : Value) : Prop where
 bel : Below w.heap.size w wr
 lbk : wr.heap[w.heap.size]? = some (.cells #[iv] 22 (0, 0))
 res : wr.heap[w.heap.size + 1]? = some (.cells #[.int .i64 0, .int .i64 0] 30 (0, 0))
 img : wr.heap[mb]? = some (.cells #[iv, gv] 95 (0, 0))
 opn : wr.heap[mb + 1]? = some (.cells #[ov] 23 (0, 0))
 own : wr.ownsRow (mb + 2) 3 1 ov os.length (intVs (natI os))
 reg : wr.ownsRow (mb + 2) 100 2 gv rs.length (regVs rs)
 apt : ∀ k, ov.ownBlock = some k → gv.ownBlock ≠ some k
 low : ∀ o ∈ os, o < l.length
 ord : w.heap.size + 1 < mb
 bas : mb + 2 ≤ wr.heap.size
section
variable {w wr w' : World} {mb : Nat} {iv : Value} {l : List In} {os : List Nat} {ov : Value} {rs : List (Nat × Nat)} {gv : Value}
theorem RS.grow (h : RS w wr mb iv l os ov rs gv) (hb : Below wr.heap.size wr w') : RS w w' mb iv l os ov rs gv := by
 have old : ∀ (k : Nat) (o : Obj), wr.heap[k]? = some o → w'.heap[k]? = some o := fun k o hk => (hb.block k (Array.getElem?_eq_some_iff.1 hk).1).trans hk
 exact ⟨below_seq h.bel hb, old _ _ h.lbk, old _ _ h.res, old _ _ h.img, old _ _ h.opn, ownsRow_same h.own (fun k _ hk => hb.block k hk), ownsRow_same h.reg (fun k _ hk => hb.block k hk), h.apt, h.low, h.ord, Nat.le_trans h.bas hb.size⟩
theorem RS.push (h : RS w wr mb iv l os ov rs gv) {ov' : Value} {os' : List Nat} (hg : wr.grownBy w' ov.ownBlock) (ho : w'.ownsRow (mb + 2) 3 1 ov' os'.length (intVs (natI os'))) (hv : ov'.ownBlock = ov.ownBlock ∨ ∀ k, ov'.ownBlock = some k → wr.heap.size ≤ k) (hlow : ∀ o ∈ os', o < l.length) : RS w (w'.setCell ⟨mb + 1, 0, none⟩ ov') mb iv l os' ov' rs gv := by
 have o1 := h.ord
 have nb : ∀ k, k < mb + 2 → some k ≠ ov.ownBlock := fun k hk e => by have := (h.own.lt k e.symm).1; omega
 have old : ∀ (k : Nat) (o : Obj), k < mb + 2 → wr.heap[k]? = some o → w'.heap[k]? = some o := fun k o hk2 hk => (hg.block k (Array.getElem?_eq_some_iff.1 hk).1 (nb k hk2)).trans hk
 refine ⟨(h.bel.grown hg h.bel.size (fun k hk => by have := (h.own.lt k hk).1; omega)).setCell (by show w.heap.size ≤ mb + 1; omega) _, (Below.heap_setCell _ _ _ _ (by show w.heap.size ≠ mb + 1; omega)).trans (old _ _ (by omega) h.lbk), (Below.heap_setCell _ _ _ _ (by show w.heap.size + 1 ≠ mb + 1; omega)).trans (old _ _ (by omega) h.res), (Below.heap_setCell _ _ _ _ (by show mb ≠ mb + 1; omega)).trans (old _ _ (by omega) h.img), ?_, ownsRow_same ho (fun j hj _ => Below.heap_setCell _ _ _ _ (by show j ≠ mb + 1; omega)), ?_, ?_, hlow, h.ord, by have := h.bas; have := hg.size; simp; omega⟩
 ·have := setCell_at (i := 0) (u := ov') (old _ _ (by omega) h.opn)
  simpa using this
 ·refine ownsRow_keep h.reg fun k hk => ?_
  have hk2 := h.reg.lt k hk
  rw [Below.heap_setCell _ _ _ _ (by show k ≠ mb + 1; omega)]
  exact hg.block k hk2.2 (fun e => h.apt k e.symm hk)
 ·intro k hk hk'
  rcases hv with hv | hv
  ·rw [hv] at hk; exact h.apt k hk hk'
  ·have h1 := hv k hk; have h2 := (h.reg.lt k hk').2; omega
theorem RS.pushR (h : RS w wr mb iv l os ov rs gv) {gv' : Value} {rs' : List (Nat × Nat)} (hg : wr.grownBy w' gv.ownBlock) (ho : w'.ownsRow (mb + 2) 100 2 gv' rs'.length (regVs rs')) (hv : gv'.ownBlock = gv.ownBlock ∨ ∀ k, gv'.ownBlock = some k → wr.heap.size ≤ k) : RS w (w'.setCell ⟨mb, 1, none⟩ gv') mb iv l os ov rs' gv' := by
 have o1 := h.ord
 have nb : ∀ k, k < mb + 2 → some k ≠ gv.ownBlock := fun k hk e => by have := (h.reg.lt k e.symm).1; omega
 have old : ∀ (k : Nat) (o : Obj), k < mb + 2 → wr.heap[k]? = some o → w'.heap[k]? = some o := fun k o hk2 hk => (hg.block k (Array.getElem?_eq_some_iff.1 hk).1 (nb k hk2)).trans hk
 refine ⟨(h.bel.grown hg h.bel.size (fun k hk => by have := (h.reg.lt k hk).1; omega)).setCell (by show w.heap.size ≤ mb; omega) _, (Below.heap_setCell _ _ _ _ (by show w.heap.size ≠ mb; omega)).trans (old _ _ (by omega) h.lbk), (Below.heap_setCell _ _ _ _ (by show w.heap.size + 1 ≠ mb; omega)).trans (old _ _ (by omega) h.res), ?_, (Below.heap_setCell _ _ _ _ (by show mb + 1 ≠ mb; omega)).trans (old _ _ (by omega) h.opn), ?_, ownsRow_same ho (fun j hj _ => Below.heap_setCell _ _ _ _ (by show j ≠ mb; omega)), ?_, h.low, h.ord, by have := h.bas; have := hg.size; simp; omega⟩
 ·have := setCell_at (i := 1) (u := gv') (old _ _ (by omega) h.img)
  simpa using this
 ·refine ownsRow_keep h.own fun k hk => ?_
  have hk2 := h.own.lt k hk
  rw [Below.heap_setCell _ _ _ _ (by show k ≠ mb; omega)]
  exact hg.block k hk2.2 (fun e => h.apt k hk e.symm)
 ·intro k hk hk'
  rcases hv with hv | hv
  ·rw [hv] at hk'; exact h.apt k hk hk'
  ·have h1 := hv k hk'; have h2 := (h.own.lt k hk).2; omega
theorem own_shrink {B : Nat} {ad : Option Addr} {c : Nat} {n : Nat} (h : w.ownsRow B 3 1 (.slice ad (n + 1) c) os.length (intVs (natI os))) (hn : os.length = n + 1) : w.ownsRow B 3 1 (.slice ad n c) os.dropLast.length (intVs (natI os.dropLast)) := by
 have hd : os.dropLast.length = n := by simp [hn]
 obtain ⟨hl, ⟨e, he⟩ | ⟨g, cap, cur, e, hb, hg, hc, hm, hs, ht⟩⟩ := h
 ·omega
 ·simp only [Value.slice.injEq] at e
  obtain ⟨rfl, -, rfl⟩ := e
  refine ⟨by simp [intVs, natI], .inr ⟨g, c, cur, by rw [hd], hb, hg, by omega, hm, hs, ?_⟩⟩
  have e2 : intVs (natI os.dropLast) = (intVs (natI os)).take (os.dropLast.length * 1) := by
   rw [hd, Nat.mul_one]
   unfold intVs natI
   rw [← List.map_take, ← List.map_take, List.dropLast_eq_take, hn]
   rfl
  rw [e2, ← ht, List.take_take]
  congr 1
  omega
theorem RS.pop {ad : Option Addr} {n c : Nat} (h : RS w wr mb iv l os (.slice ad (n + 1) c) rs gv) (hn : os.length = n + 1) : RS w (wr.setCell ⟨mb + 1, 0, none⟩ (.slice ad n c)) mb iv l os.dropLast (.slice ad n c) rs gv :=
 h.push ⟨rfl, rfl, rfl, Nat.le_refl _, fun _ _ _ => rfl⟩ (own_shrink h.own hn) (.inl (by cases ad <;> rfl)) (fun o ho => h.low o (List.dropLast_subset _ ho))
end
theorem info96 : (Tryd.prog.info? 100).map (fun i => (i.zero, i.size, i.bytes)) = some (some (.agg #[.int .i64 0, .int .i64 0]), 2, 16) := by kernel_rfl
theorem wp_push2 {w : World} {ops : Array Oper} {rest : List Oper} {o : Oper} {a : Act} {Q : Exit → Act → World → Prop} (hgd : o.guard = none) (s x : Operand)
  (ho : o.op = .call { callee := .builtin .append, args := #[s, x], argTypes := #[23, 23] }) (B : Nat) (v : Value) (ts : List Int) (t : Int) (g n : Nat) (hgg : w.heap.size = g) (hn : ts.length = n) (hs : a.eval s = v) (hx : a.eval x = .slice (some ⟨g, 0, none⟩) 1 1)
  (hown : w.ownsRow B 3 1 v n (intVs ts)) (hB : B ≤ w.heap.size) (hl : n ≤ 4000000)
  (h : ∀ ad c w', w'.ownsRow B 3 1 (.slice ad (n + 1) c) (n + 1) (intVs (ts ++ [t])) → (w.alloc (.cells #[.int .i64 t] 3)).grownBy w' v.ownBlock → ((Value.slice ad (n + 1) c).ownBlock = v.ownBlock ∨ ∀ k, (Value.slice ad (n + 1) c).ownBlock = some k → (w.alloc (.cells #[.int .i64 t] 3)).heap.size ≤ k) → wpList Tryd.prog ops Q rest (a.put o.dst (.slice ad (n + 1) c)) w') : wpList Tryd.prog ops Q (o :: rest) a (w.alloc (.cells #[.int .i64 t] 3)) := by
 subst hgg hn
 obtain ⟨i0, hi0, hz0, hz1, hz2⟩ := info_parts infoI
 have hown' : (w.alloc (.cells #[.int .i64 t] 3)).ownsRow B 3 1 v ts.length (intVs ts) := ownsRow_same hown (fun k _ hk => (below_new w _).block k hk)
 obtain ⟨v4, w4, hrun, ho4, hg4, hv4⟩ := append_two (P := Tryd.prog) (w.alloc (.cells #[.int .i64 t] 3)) B w.heap.size 23 o.type 3 i0 _ 1 8 Tryd.underlying23 hi0 hz0 hz1 hz2 rfl (by decide) v ts.length (intVs ts) hown' _ 1 [.int .i64 t] (World.ownsRow_lit w #[.int .i64 t] 1 (Nat.le_refl _) (by decide) rfl) (by intro u hu; simp at hu; subst hu; rfl) (by unfold maxLen; omega) (by omega) (by simp; omega)
 obtain ⟨vad, vcap, rfl⟩ := owns_value ho4
 refine append_known hgd s x 23 ho hs hx hrun ?_
 exact h vad vcap w4 (by simpa [intVs] using ho4) hg4 hv4
theorem wp_pushR {w : World} {ops : Array Oper} {rest : List Oper} {o : Oper} {a : Act} {Q : Exit → Act → World → Prop} (hgd : o.guard = none) (s x : Operand)
  (ho : o.op = .call { callee := .builtin .append, args := #[s, x], argTypes := #[93, 93] }) (B : Nat) (v : Value) (rs : List (Nat × Nat)) (p q : Nat) (g : Nat) (hgg : w.heap.size = g) (hs : a.eval s = v) (hx : a.eval x = .slice (some ⟨g, 0, none⟩) 1 1)
  (hown : w.ownsRow B 100 2 v rs.length (regVs rs)) (hB : B ≤ w.heap.size) (hl : rs.length ≤ 4000000)
  (h : ∀ ad c w', w'.ownsRow B 100 2 (.slice ad (rs.length + 1) c) (rs.length + 1) (regVs (rs ++ [(p, q)])) → (w.alloc (.cells #[.int .i64 (p : Int), .int .i64 (q : Int)] 100)).grownBy w' v.ownBlock → ((Value.slice ad (rs.length + 1) c).ownBlock = v.ownBlock ∨ ∀ k, (Value.slice ad (rs.length + 1) c).ownBlock = some k → (w.alloc (.cells #[.int .i64 (p : Int), .int .i64 (q : Int)] 100)).heap.size ≤ k) → wpList Tryd.prog ops Q rest (a.put o.dst (.slice ad (rs.length + 1) c)) w') : wpList Tryd.prog ops Q (o :: rest) a (w.alloc (.cells #[.int .i64 (p : Int), .int .i64 (q : Int)] 100)) := by
 subst hgg
 obtain ⟨i0, hi0, hz0, hz1, hz2⟩ := info_parts info96
 have hown' : (w.alloc (.cells #[.int .i64 (p : Int), .int .i64 (q : Int)] 100)).ownsRow B 100 2 v rs.length (regVs rs) := ownsRow_same hown (fun k _ hk => (below_new w _).block k hk)
 obtain ⟨v4, w4, hrun, ho4, hg4, hv4⟩ := append_two (P := Tryd.prog) (w.alloc (.cells #[.int .i64 (p : Int), .int .i64 (q : Int)] 100)) B w.heap.size 93 o.type 100 i0 _ 2 16 Tryd.underlying93 hi0 hz0 hz1 hz2 rfl (by decide) v rs.length (regVs rs) hown' _ 1 [.int .i64 (p : Int), .int .i64 (q : Int)] (World.ownsRow_lit w #[.int .i64 (p : Int), .int .i64 (q : Int)] 1 (Nat.le_refl _) (by decide) rfl) (by intro u hu; simp at hu; rcases hu with hu | hu <;> subst hu <;> rfl) (by unfold maxLen; omega) (by omega) (by simp; omega)
 obtain ⟨vad, vcap, rfl⟩ := owns_value ho4
 refine append_known hgd s x 93 ho hs hx hrun ?_
 exact h vad vcap w4 (by rw [regVs_append]; exact ho4) hg4 hv4
theorem info29 : (Tryd.prog.info? 28).map (fun i => (i.zero, i.size, i.bytes)) = some (some (.int .i64 0), 1, 8) := by kernel_rfl
theorem zero29 (w : World) : (zeroValue 28).run Tryd.prog w = .ok (.int .i64 0) w := by
 obtain ⟨i0, hi0, hz0, hz1, hz2⟩ := info_parts info29
 simp [zeroValue, typeInfo, hi0, hz0]
theorem er_map (w : World) (k1 k2 v1 v2 : Int) (h1 : 0 ≤ k1 ∧ k1 ≤ 100) (h2 : 0 ≤ k2 ∧ k2 ≤ 100) (h3 : 0 ≤ v1 ∧ v1 ≤ 100) (h4 : 0 ≤ v2 ∧ v2 ≤ 100) (hne : k1 ≠ k2) : ∃ w5 w6, (Instr.mapUpdate 97 (.map (some w.heap.size)) (.int .i64 k1) (.int .i64 v1)).run Tryd.prog (w.alloc (.map #[] 0)) = .ok () w5 ∧ (Instr.mapUpdate 97 (.map (some w.heap.size)) (.int .i64 k2) (.int .i64 v2)).run Tryd.prog w5 = .ok () w6 ∧ (Instr.lookup 97 (.map (some w.heap.size)) (.int .i64 k1) false).run Tryd.prog w6 = .ok (.int .i64 v1) w6 ∧ (Instr.lookup 97 (.map (some w.heap.size)) (.int .i64 k2) false).run Tryd.prog w6 = .ok (.int .i64 v2) w6 ∧ Below w.heap.size w w5 ∧ Below w.heap.size w w6 := by
 have ho : (w.alloc (.map #[] 0)).ownsMap Tryd.prog 3 (plainElem Tryd.prog 28) w.heap.size 0 (.map [] : DataW Unit) := World.ownsMap_made w _ _ _
 obtain ⟨w5, hr5, ho5, hg5⟩ := ho.update (t := 97) (e := 28) (Maps.int_keyed Tryd.underlying3) Tryd.underlying97 (by unfold maxLen; omega) (Maps.keyOf_int_mk Tryd.underlying3 (wf_int (z := k1) (by omega))) (plainElem_int Tryd.underlying28 (wf_int (z := v1) (by omega)))
 obtain ⟨w6, hr6, ho6, hg6⟩ := ho5.update (t := 97) (e := 28) (Maps.int_keyed Tryd.underlying3) Tryd.underlying97 (by unfold maxLen; omega) (Maps.keyOf_int_mk Tryd.underlying3 (wf_int (z := k2) (by omega))) (plainElem_int Tryd.underlying28 (wf_int (z := v2) (by omega)))
 have hn12 : (Lit.int .i64 k1) ≠ (Lit.int .i64 k2) := by simpa using hne
 obtain ⟨c1, hl1, ha1, -⟩ := ho6.lookup_int (t := 97) (e := 28) (Maps.int_keyed Tryd.underlying3) Tryd.underlying97 Tryd.underlying28 (zero29 w6) (Maps.keyOf_int_mk Tryd.underlying3 (wf_int (z := k1) (by omega)))
 obtain ⟨c2, hl2, ha2, -⟩ := ho6.lookup_int (t := 97) (e := 28) (Maps.int_keyed Tryd.underlying3) Tryd.underlying97 Tryd.underlying28 (zero29 w6) (Maps.keyOf_int_mk Tryd.underlying3 (wf_int (z := k2) (by omega)))
 rw [Maps.atKey_put_other hn12, Maps.atKey_put_same (k := .int .i64 k1) ho.isMap trivial] at ha1
 rw [Maps.atKey_put_same (k := .int .i64 k2) ho5.isMap trivial] at ha2
 simp only [DataW.lit.injEq, Lit.int.injEq, true_and] at ha1 ha2
 have b1 : Below w.heap.size w w5 := (below_new w _).grown hg5 (by simp) (by intro j hj; simp at hj; omega)
 exact ⟨w5, w6, hr5, hr6, by rw [hl1, ha1], by rw [hl2, ha2], b1, b1.grown hg6 b1.size (by intro j hj; simp at hj; omega)⟩
theorem in_map (w : World) (k1 k2 v1 v2 : Int) (h1 : 0 ≤ k1 ∧ k1 ≤ 100) (h2 : 0 ≤ k2 ∧ k2 ≤ 100) (h3 : 0 ≤ v1 ∧ v1 ≤ 100) (h4 : 0 ≤ v2 ∧ v2 ≤ 100) (hne : k1 ≠ k2) : ∃ w5 w6, (Instr.mapUpdate 98 (.map (some w.heap.size)) (.int .i64 k1) (.int .i64 v1)).run Tryd.prog (w.alloc (.map #[] 0)) = .ok () w5 ∧ (Instr.mapUpdate 98 (.map (some w.heap.size)) (.int .i64 k2) (.int .i64 v2)).run Tryd.prog w5 = .ok () w6 ∧ (Instr.lookup 98 (.map (some w.heap.size)) (.int .i64 k1) false).run Tryd.prog w6 = .ok (.int .i64 v1) w6 ∧ (Instr.lookup 98 (.map (some w.heap.size)) (.int .i64 k2) false).run Tryd.prog w6 = .ok (.int .i64 v2) w6 ∧ Below w.heap.size w w5 ∧ Below w.heap.size w w6 := by
 obtain ⟨w5, hr5, ho5, hg5⟩ := (HtAt.made w).set (by omega) (z := k1) (v := v1) (by omega) (by omega)
 obtain ⟨w6, hr6, ho6, hg6⟩ := ho5.set (by omega) (z := k2) (v := v2) (by omega) (by omega)
 have b1 : Below w.heap.size w w5 := (below_new w _).grown hg5 (by simp) (by intro j hj; simp at hj; omega)
 refine ⟨w5, w6, hr5, hr6, ?_, ?_, b1, b1.grown hg6 b1.size (by intro j hj; simp at hj; omega)⟩
 ·rw [ho6.look1 (by omega)]; unfold setH; rw [if_neg hne, if_pos rfl]; rfl
 ·rw [ho6.look1 (by omega)]; unfold setH; rw [if_pos rfl]; rfl
theorem docNest_at (l0 : List In) {l : List In} {j : Nat} (h : j < l.length) (os : List Nat) (rs : List (Nat × Nat)) : docNest l0 (l.drop j) j os rs = if (docOf l0 j (l.getD j in0) os).1 ≠ 0 then .inl ((docOf l0 j (l.getD j in0) os).1, j) else docNest l0 (l.drop (j + 1)) (j + 1) (docOf l0 j (l.getD j in0) os).2 (if (l.getD j in0).op = 14 ∨ (l.getD j in0).op = 17 then rs ++ [(os.getLast?.getD 0, j)] else rs) := by
 rw [drop_at h, docNest]
theorem RI_ends {w : World} {g : Nat} {c k p : Value} {a : Act} (h : w.heap[g]? = some (.cells #[c, k] 30 (0, 0))) (h2 : a.tmps[2]?.getD undef = p) (h3 : a.tmps[3]?.getD undef = .pointer (some ⟨g, 0, none⟩)) :
  (results Tryd.f23 a.tmps).run Tryd.prog w = .ok (.tuple #[p, .agg #[c, k]]) w := by
 obtain ⟨c1, f1, l1⟩ := cells_of (l := [_, _]) h
 have c10 := c1 0 _ rfl
 have c11 := c1 1 _ rfl
 simp [results, Tryd.results23, go_sem, h2, h3, c10, c11]
structure R1 (w wr : World) (iv : Value) : Prop where
 bel : Below w.heap.size w wr
 lbk : wr.heap[w.heap.size]? = some (.cells #[iv] 22 (0, 0))
 res : wr.heap[w.heap.size + 1]? = some (.cells #[.int .i64 0, .int .i64 0] 30 (0, 0))
theorem R1.grow {w wr w' : World} {iv : Value} (h : R1 w wr iv) (hb : Below wr.heap.size wr w') : R1 w w' iv :=
 ⟨below_seq h.bel hb, (hb.block _ (Array.getElem?_eq_some_iff.1 h.lbk).1).trans h.lbk, (hb.block _ (Array.getElem?_eq_some_iff.1 h.res).1).trans h.res⟩
theorem R1.start (w : World) (iv : Value) : R1 w ((w.alloc (.cells #[iv] 22)).alloc (.cells #[.int .i64 0, .int .i64 0] 30)) iv := by
 refine ⟨(below_new _ _).alloc (by simp) _, ?_, ?_⟩
 ·rw [Below.heap_alloc _ _ _ (by simp)]; exact heap_alloc_new _ _
 ·have := heap_alloc_new (w.alloc (.cells #[iv] 22)) (.cells #[.int .i64 0, .int .i64 0] 30)
  simpa using this
theorem RS.start {w wr : World} {iv : Value} (h : R1 w wr iv) (l : List In) : RS w ((wr.alloc (.cells #[iv, .slice none 0 0] 95)).alloc (.cells #[.slice none 0 0] 23)) wr.heap.size iv l [] (.slice none 0 0) [] (.slice none 0 0) := by
 have hb : Below wr.heap.size wr ((wr.alloc (.cells #[iv, .slice none 0 0] 95)).alloc (.cells #[.slice none 0 0] 23)) := (below_new _ _).alloc (by simp) _
 have hg := h.grow hb
 have hl := (Array.getElem?_eq_some_iff.1 h.res).1
 refine ⟨hg.bel, hg.lbk, hg.res, ?_, ?_, World.ownsRow_nil _ _ _ _, World.ownsRow_nil _ _ _ _, (fun k hk => by cases hk), by simp, hl, by simp⟩
 ·rw [Below.heap_alloc _ _ _ (by simp)]; exact heap_alloc_new _ _
 ·have := heap_alloc_new (wr.alloc (.cells #[iv, .slice none 0 0] 95)) (.cells #[.slice none 0 0] 23)
  simpa using this
theorem docI_form {l : List In} (hl : l.length ≤ 2000) {z : Int} {j : Nat} (h : scan (fun _ x => formErr x) l 0 = some (z, j)) : docI l = (z, (j : Int)) := by
 unfold docI; rw [if_neg (by omega), h]
theorem docI_nest {l : List In} (hl : l.length ≤ 2000) (hf : scan (fun _ x => formErr x) l 0 = none) {z : Int} {j : Nat} (h : docNest l l 0 [] [] = .inl (z, j)) : docI l = (z, (j : Int)) := by
 unfold docI; rw [if_neg (by omega), hf]; dsimp only; rw [h]
theorem docI_open {l : List In} (hl : l.length ≤ 2000) (hf : scan (fun _ x => formErr x) l 0 = none) {o : Nat} {os : List Nat} {rs : List (Nat × Nat)} (h : docNest l l 0 [] [] = .inr (o :: os, rs)) : docI l = (if (l.getD o in0).op = 13 then 9 else 10, (o : Int)) := by
 unfold docI; rw [if_neg (by omega), hf]; dsimp only; rw [h]
theorem docI_jump {l : List In} (hl : l.length ≤ 2000) (hf : scan (fun _ x => formErr x) l 0 = none) {rs : List (Nat × Nat)} (h : docNest l l 0 [] [] = .inr ([], rs)) {z : Int} {j : Nat} (hj : scan (docJump l rs) l 0 = some (z, j)) : docI l = (z, (j : Int)) := by
 unfold docI; rw [if_neg (by omega), hf]; dsimp only; rw [h]; dsimp only; rw [hj]
theorem docI_stack {l : List In} (hl : l.length ≤ 2000) (hf : scan (fun _ x => formErr x) l 0 = none) {rs : List (Nat × Nat)} (h : docNest l l 0 [] [] = .inr ([], rs)) (hj : scan (docJump l rs) l 0 = none) : docI l = stackEnd l := by
 unfold docI stackEnd; rw [if_neg (by omega), hf]; dsimp only; rw [h]; dsimp only; rw [hj] <;> (dsimp only; rcases stackScan l 0 M0 with ⟨c, k⟩ | M <;> rfl)
theorem docNest_step {l : List In} {j : Nat} {os : List Nat} {rs : List (Nat × Nat)} (hl : l.length ≤ 2000) (hf : scan (fun _ x => formErr x) l 0 = none) (hlt : j < l.length) (hsc : docNest l (l.drop j) j os rs = docNest l l 0 [] []) : ∀ z os', docOf l j (l.getD j in0) os = (z, os') → (z ≠ 0 → docI l = (z, (j : Int))) ∧ (z = 0 → docNest l (l.drop (j + 1)) (j + 1) os' (if (l.getD j in0).op = 14 ∨ (l.getD j in0).op = 17 then rs ++ [(os.getLast?.getD 0, j)] else rs) = docNest l l 0 [] []) := by
 intro z os' hd
 rw [docNest_at _ hlt, hd] at hsc
 constructor
 ·intro hz
  rw [if_pos (by simpa using hz)] at hsc
  exact docI_nest hl hf hsc.symm
 ·intro hz
  rw [if_neg (by simpa using hz)] at hsc
  exact hsc
section
variable {l : List In} {j : Nat} {os : List Nat} {a b : Int}
theorem docOf_13 : docOf l j ⟨13, a, b⟩ os = if amongI l os 13 a = true then (9, os) else (0, os ++ [j]) := by
 unfold docOf; dsimp only; rw [if_pos (.inl rfl)]; rfl
theorem docOf_16 : docOf l j ⟨16, a, b⟩ os = if amongI l os 16 a = true then (10, os) else (0, os ++ [j]) := by
 unfold docOf; dsimp only; rw [if_pos (.inr rfl)]; rfl
theorem docOf_15 : docOf l j ⟨15, a, b⟩ os = if amongI l os 13 a = true then (0, os) else (9, os) := rfl
theorem docOf_14 : docOf l j ⟨14, a, b⟩ os = if os = [] ∨ (l.getD (os.getLast?.getD 0) in0).op ≠ 13 ∨ (l.getD (os.getLast?.getD 0) in0).a ≠ a ∨ b ≠ (os.getLast?.getD 0 : Nat) + 1 then (9, os) else (0, os.dropLast) := by
 unfold docOf; dsimp only; rw [if_neg (by omega), if_pos rfl]
theorem docOf_17 : docOf l j ⟨17, a, b⟩ os = if os = [] ∨ (l.getD (os.getLast?.getD 0) in0).op ≠ 16 ∨ (l.getD (os.getLast?.getD 0) in0).a ≠ a then (10, os) else (0, os.dropLast) := by
 unfold docOf; dsimp only; rw [if_neg (by omega), if_neg (by omega), if_pos rfl]
theorem docOf_other {op : Int} (h13 : op ≠ 13) (h16 : op ≠ 16) (h14 : op ≠ 14) (h17 : op ≠ 17) (h15 : op ≠ 15) : docOf l j ⟨op, a, b⟩ os = (0, os) := by
 unfold docOf; dsimp only; rw [if_neg (by omega), if_neg h14, if_neg h17, if_neg h15]
end
theorem keep6 {X Y : World} {p1 p2 p3 p4 p5 p6 : Addr} {x1 x2 x3 x4 x5 x6 : Value} (hb : Below X.heap.size X Y) (h : X.cell? p1 = some x1 ∧ X.cell? p2 = some x2 ∧ X.cell? p3 = some x3 ∧ X.cell? p4 = some x4 ∧ X.cell? p5 = some x5 ∧ X.cell? p6 = some x6) : Y.cell? p1 = some x1 ∧ Y.cell? p2 = some x2 ∧ Y.cell? p3 = some x3 ∧ Y.cell? p4 = some x4 ∧ Y.cell? p5 = some x5 ∧ Y.cell? p6 = some x6 :=
 ⟨below_cell hb h.1, below_cell hb h.2.1, below_cell hb h.2.2.1, below_cell hb h.2.2.2.1, below_cell hb h.2.2.2.2.1, below_cell hb h.2.2.2.2.2⟩
theorem take_at {P : Program} {md : Region.Mode} {ops : Array Oper} {Q : Exit → Act → World → Prop} {S : World → Prop} {i n : Nat} {oi : Oper} {v : Value} {fuel : Nat} {listed : Array Bool} {l : List Value} {ds : List Deferred} {w : World}
  (hi : ops[i]? = some oi) (hd : oi.dst = some n) (hs : Region.noSelect ops = true) (hf : Region.free md ops listed i = true) (hr : (Region.ready md ops listed).contains i = true)
  (hQ : ∀ c a w, Q (.panic c) (a.put oi.dst v) w → Q (.panic c) a w) (hy : YieldsIf P ops S oi v ⟨l.toArray, ds⟩) (hS : S w)
  (h : wpAnyH P md ops Q S fuel (listed.setIfInBounds i true) ⟨(l.set n v).toArray, ds⟩ w) : wpAnyH P md ops Q S (fuel + 1) listed ⟨l.toArray, ds⟩ w := by
 refine wpAnyH_take hi hs hf hr hQ hy hS ?_
 have e : Act.put ⟨l.toArray, ds⟩ oi.dst v = ⟨(l.set n v).toArray, ds⟩ := by rw [hd]; simp [Act.put]
 rw [e]
 exact h
theorem last_of {w : World} {os : List Nat} {ov : Value} (h : AtSl w os ov) (hne : os ≠ []) : ∃ (b o n c : Nat), ov = .slice (some ⟨b, o, none⟩) (n + 1) c ∧ os.length = n + 1 ∧ w.cell? ⟨b, o + n, none⟩ = some (.int .i64 ((os.getLast?.getD 0 : Nat) : Int)) ∧ w.cell? ⟨b, o, none⟩ = some (.int .i64 ((os.getD 0 0 : Nat) : Int)) ∧ os.getLast?.getD 0 ∈ os := by
 obtain ⟨ad, c, rfl, h0 | ⟨b, o, rfl, hrow⟩⟩ := h
 ·exact absurd h0 hne
 have hpos : 0 < os.length := List.length_pos_iff.2 hne
 have hlast : os.getLast? = some (os.getD (os.length - 1) 0) := by
  rw [List.getLast?_eq_getElem?, List.getD_eq_getElem?_getD, List.getElem?_eq_getElem (by omega)]
  rfl
 refine ⟨b, o, os.length - 1, c, by rw [Nat.sub_add_cancel hpos], by omega, ?_, ?_, ?_⟩
 ·have := hrow (os.length - 1) (by omega)
  rw [this, hlast]; rfl
 ·have := hrow 0 hpos
  simpa using this
 ·rw [hlast]
  simp only [Option.getD_some]
  rw [List.getD_eq_getElem?_getD, List.getElem?_eq_getElem (by omega)]
  exact List.getElem_mem _
theorem set_alloc {w9 : World} {g : Nat} {a b : Value} {o : Obj} (h : w9.heap[g]? = some (.cells #[.int .i64 0, .int .i64 0] 30 (0, 0))) : (((w9.setCell ⟨g, 0, none⟩ a).setCell ⟨g, 1, none⟩ b).alloc o).heap[g]? = some (.cells #[a, b] 30 (0, 0)) := by
 have h1 := setCell_at (i := 1) (u := b) (setCell_at (i := 0) (u := a) h)
 rw [Below.heap_alloc _ _ _ (Array.getElem?_eq_some_iff.1 h1).1, h1]
 simp
theorem inner_eq (P Q : Option (Nat × Nat)) : P = Q ↔ P.isSome = Q.isSome ∧ (P.getD (0, 0)).1 = (Q.getD (0, 0)).1 ∧ (P.getD (0, 0)).2 = (Q.getD (0, 0)).2 := by
 constructor
 ·rintro rfl; exact ⟨rfl, rfl, rfl⟩
 ·rcases P with _ | ⟨p1, p2⟩ <;> rcases Q with _ | ⟨q1, q2⟩ <;> simp
theorem stackScan_bad : ∀ (l : List In) (k : Nat) (M : Int → Option Int) {c : Int} {j : Nat}, stackScan l k M = .inl (c, j) → c ≠ 0
 | [], _, _, _, _, h => by simp [stackScan] at h
 | x :: r, k, M, c, j, h => by
  rw [stackScan] at h
  split at h
  ·rename_i hz
   simp only [Sum.inl.injEq, Prod.mk.injEq] at h
   rw [← h.1]; exact hz
  ·exact stackScan_bad r (k + 1) _ h
theorem stackEnd_zero {l : List In} {k : Int} (h : stackEnd l = (0, k)) : k = 0 := by
 unfold stackEnd at h
 split at h
 ·rename_i c j hs
  simp only [Prod.mk.injEq] at h
  exact absurd h.1 (stackScan_bad _ _ _ hs)
 ·split at h
  ·simp at h
  ·simp only [Prod.mk.injEq, true_and] at h; exact h.symm
theorem low_a {x : In} (h : formErr x = 0) (ho : x.op = 11 ∨ x.op = 12) : 0 ≤ x.a ∧ x.a ≤ 2000 := by
 obtain ⟨op, a, b⟩ := x
 unfold formErr at h
 dsimp only at h ho ⊢
 split at h
 ·simp at h
 split at h
 ·simp at h
 rename_i h1 h2
 rcases ho with rfl | rfl
 ·have l1 : lowA (Int.toNat 11) = 0 := by decide
  have l2 : highA (Int.toNat 11) = 2000 := by decide
  omega
 ·have l1 : lowA (Int.toNat 12) = 0 := by decide
  have l2 : highA (Int.toNat 12) = 2000 := by decide
  omega
theorem scan_bad (f : Nat → In → Int) : ∀ (l : List In) (k : Nat) {c : Int} {j : Nat}, scan f l k = some (c, j) → c ≠ 0
 | [], _, _, _, h => by simp [scan] at h
 | x :: r, k, c, j, h => by
  rw [scan] at h
  split at h
  ·rename_i hx
   simp only [Option.some.injEq, Prod.mk.injEq] at h
   rw [← h.1]; exact hx
  ·exact scan_bad f r (k + 1) h
theorem docNest_bad (l : List In) : ∀ (r : List In) (k : Nat) (os : List Nat) (rs : List (Nat × Nat)) {c : Int} {j : Nat}, docNest l r k os rs = .inl (c, j) → c ≠ 0
 | [], _, _, _, _, _, h => by simp [docNest] at h
 | x :: r, k, os, rs, c, j, h => by
  rw [docNest] at h
  split at h
  ·rename_i hx
   simp only [Sum.inl.injEq, Prod.mk.injEq] at h
   rw [← h.1]; exact hx
  ·exact docNest_bad l r (k + 1) _ _ h
theorem putWays_pos (bh : Int) (hb : 0 ≤ bh) : ∀ (ts : List Int) (M : Int → Option Int), (∀ z h, M z = some h → 0 ≤ h) → ∀ z h, (putWays bh ts M).2 z = some h → 0 ≤ h
 | [], M, hM => hM
 | t :: r, M, hM => by
  rw [putWays]
  split
  ·exact hM
  ·refine putWays_pos bh hb r _ fun z h hz => ?_
   unfold setH at hz
   split at hz
   ·cases hz; exact hb
   ·exact hM z h hz
theorem puts_pos (m : Nat) : 0 ≤ putsOf m := by
 unfold putsOf
 by_cases h : m < 19
 ·have : m = 0 ∨ m = 1 ∨ m = 2 ∨ m = 3 ∨ m = 4 ∨ m = 5 ∨ m = 6 ∨ m = 7 ∨ m = 8 ∨ m = 9 ∨ m = 10 ∨ m = 11 ∨ m = 12 ∨ m = 13 ∨ m = 14 ∨ m = 15 ∨ m = 16 ∨ m = 17 ∨ m = 18 := by omega
  rcases this with rfl | rfl | rfl | rfl | rfl | rfl | rfl | rfl | rfl | rfl | rfl | rfl | rfl | rfl | rfl | rfl | rfl | rfl | rfl <;> decide
 ·rw [List.getD_eq_getElem?_getD, List.getElem?_eq_none (by simp; omega)]; decide
theorem stackScan_pos : ∀ (l : List In) (k : Nat) (M M' : Int → Option Int), stackScan l k M = .inr M' → (∀ z h, M z = some h → 0 ≤ h) → ∀ z h, M' z = some h → 0 ≤ h
 | [], k, M, M', h, hM => by rw [stackScan] at h; cases h; exact hM
 | x :: r, k, M, M', h, hM => by
  rw [stackScan] at h
  split at h
  ·simp at h
  ·refine stackScan_pos r (k + 1) _ M' h ?_
   unfold stackStep
   split
   ·exact hM
   ·rename_i q hq
    split
    ·exact hM
    ·rename_i c
     have := puts_pos x.op.toNat
     exact putWays_pos _ (by omega) _ M hM
structure MS where
 pc : Nat
 st : List Int
 vs : List Int
 cs : List Int
 ps : List (Int × Int)
def MS.top (s : MS) : Int := s.st.getLast?.getD 0
def MS.second (s : MS) : Int := s.st.dropLast.getLast?.getD 0
def overI (x : In) (s : MS) : Bool := if x.op = 11 then true else if x.op = 12 then decide (s.top = 0) else if x.op = 14 then decide (0 < s.cs.getD x.a.toNat 0) else false
def costI (x : In) (o : Bool) : Int := if x.op = 18 then x.a else if (x.op = 12 ∨ x.op = 14) ∧ o = true then 2 else tickOf x.op.toNat
def binI (op a b : Int) : Int := if op = 4 then wrap64 (a + b) else if op = 5 then wrap64 (a - b) else if op = 6 then wrap64 (a * b) else if op = 7 then (if a < b then 1 else 0) else (if a = b then 1 else 0)
def nextI (x : In) (s : MS) : Nat := if overI x s = true then (if x.op = 14 then x.b.toNat else x.a.toNat) else s.pc + 1
def mdo (ins : List Int) (x : In) (s : MS) : MS where
 pc := nextI x s
 st := if x.op = 1 then s.st ++ [x.a] else if x.op = 2 then s.st ++ [s.vs.getD x.a.toNat 0] else if x.op = 9 then s.st ++ [ins.getD x.a.toNat 0]
  else if x.op = 3 ∨ x.op = 10 ∨ x.op = 12 then s.st.dropLast else if 4 ≤ x.op ∧ x.op ≤ 8 then s.st.dropLast.dropLast ++ [binI x.op s.second s.top] else s.st
 vs := if x.op = 3 then s.vs.set x.a.toNat s.top else s.vs
 cs := if x.op = 13 then s.cs.set x.a.toNat x.b else if x.op = 14 then s.cs.set x.a.toNat (if 0 < s.cs.getD x.a.toNat 0 then s.cs.getD x.a.toNat 0 - 1 else 0) else if x.op = 15 then s.cs.set x.a.toNat 0 else s.cs
 ps := if x.op = 10 then s.ps ++ [(x.a, s.top)] else s.ps
def atI (l : List In) (s : MS) : In := l.getD s.pc in0
def runF (l : List In) (ins : List Int) : Nat → MS → Int → Nat ⊕ (MS × Int)
 | 0, s, t => if s.pc = l.length then .inr (s, t) else .inl s.pc
 | n + 1, s, t => if s.pc = l.length then .inr (s, t) else runF l ins n (mdo ins (atI l s) s) (t + costI (atI l s) (overI (atI l s) s))
def ms0 (vars : List Int) : MS := ⟨0, [], vars, [0, 0, 0, 0, 0, 0, 0, 0], []⟩
structure GoodI (l : List In) (M : Int → Option Int) : Prop where
 len : l.length ≤ 2000
 form : ∀ j, j < l.length → formErr (l.getD j in0) = 0
 hts : ∀ j, j < l.length → ∃ h : Int, M j = some h ∧ 0 ≤ h ∧ takesOf (l.getD j in0).op.toNat ≤ h ∧ h - takesOf (l.getD j in0).op.toNat + putsOf (l.getD j in0).op.toNat ≤ 20 ∧ ∀ t ∈ waysOf j (l.getD j in0), M t = some (h - takesOf (l.getD j in0).op.toNat + putsOf (l.getD j in0).op.toNat)
 ways : ∀ j, j < l.length → ∀ t ∈ waysOf j (l.getD j in0), 0 ≤ t ∧ t ≤ l.length
 zero : M 0 = some 0
theorem setH_same (M : Int → Option Int) (z v : Int) : setH M z v z = some v := by unfold setH; rw [if_pos rfl]
theorem putWays_keeps (bh : Int) : ∀ (ts : List Int) (M : Int → Option Int), (putWays bh ts M).1 = 0 → (∀ z h, M z = some h → (putWays bh ts M).2 z = some h) ∧ ∀ t ∈ ts, (putWays bh ts M).2 t = some bh
 | [], M, _ => ⟨fun z h hz => hz, by simp⟩
 | t :: r, M, h => by
  rw [putWays] at h ⊢
  by_cases c : M t ≠ none ∧ M t ≠ some bh
  ·rw [if_pos c] at h; simp at h
  ·rw [if_neg c] at h ⊢
   obtain ⟨h1, h2⟩ := putWays_keeps bh r (setH M t bh) h
   refine ⟨fun z hh hz => h1 z hh ?_, fun q hq => ?_⟩
   ·unfold setH
    split
    ·rename_i e; subst e
     by_cases e2 : M z = some bh
     ·rw [← e2]; exact hz
     ·exact absurd ⟨by rw [hz]; simp, e2⟩ c
    ·exact hz
   ·rcases List.mem_cons.1 hq with rfl | hq
    ·exact h1 _ _ (setH_same _ _ _)
    ·exact h2 q hq
theorem stackStep_keeps {M : Int → Option Int} {k : Nat} {x : In} (h0 : (stackStep M k x).1 = 0) : (∀ z h, M z = some h → (stackStep M k x).2 z = some h) ∧ ∃ h : Int, M k = some h ∧ takesOf x.op.toNat ≤ h ∧ h - takesOf x.op.toNat + putsOf x.op.toNat ≤ 20 ∧ ∀ t ∈ waysOf k x, (stackStep M k x).2 t = some (h - takesOf x.op.toNat + putsOf x.op.toNat) := by
 unfold stackStep at h0 ⊢
 rcases hM : M k with _ | h
 ·rw [hM] at h0; simp at h0
 ·rw [hM] at h0
  dsimp only at h0 ⊢
  by_cases c : h < takesOf x.op.toNat ∨ 20 < h - takesOf x.op.toNat + putsOf x.op.toNat
  ·rw [if_pos c] at h0; simp at h0
  ·rw [if_neg c] at h0 ⊢
   obtain ⟨h1, h2⟩ := putWays_keeps _ _ _ h0
   exact ⟨h1, h, rfl, by omega, by omega, h2⟩
theorem stackScan_keeps : ∀ (l : List In) (k : Nat) (M M' : Int → Option Int), stackScan l k M = .inr M' → (∀ z h, M z = some h → M' z = some h) ∧ ∀ j, j < l.length → ∃ h : Int, M' ((k : Int) + j) = some h ∧ takesOf (l.getD j in0).op.toNat ≤ h ∧ h - takesOf (l.getD j in0).op.toNat + putsOf (l.getD j in0).op.toNat ≤ 20 ∧ ∀ t ∈ waysOf (k + j) (l.getD j in0), M' t = some (h - takesOf (l.getD j in0).op.toNat + putsOf (l.getD j in0).op.toNat)
 | [], k, M, M', h => by rw [stackScan] at h; cases h; exact ⟨fun z h hz => hz, by simp⟩
 | x :: r, k, M, M', h => by
  rw [stackScan] at h
  by_cases c : (stackStep M k x).1 ≠ 0
  ·rw [if_pos c] at h; simp at h
  ·rw [if_neg c] at h
   have c0 : (stackStep M k x).1 = 0 := by simpa using c
   obtain ⟨h1, hh, h2, h3, h4, h5⟩ := stackStep_keeps c0
   obtain ⟨g1, g2⟩ := stackScan_keeps r (k + 1) _ _ h
   refine ⟨fun z hz e => g1 _ _ (h1 _ _ e), fun j hj => ?_⟩
   cases j with
   | zero => exact ⟨hh, by simpa using g1 _ _ (h1 _ _ h2), by simpa using h3, by simpa using h4, fun t ht => by simpa using g1 _ _ (h5 t (by simpa using ht))⟩
   | succ j =>
    obtain ⟨q, q1, q2, q3, q4⟩ := g2 j (by simpa using hj)
    refine ⟨q, by rw [← q1]; congr 1; simp; omega, by simpa using q2, by simpa using q3, fun t ht => ?_⟩
    have := q4 t (by rw [show k + 1 + j = k + (j + 1) by omega]; simpa using ht)
    simpa using this
theorem docNest_back (l : List In) : ∀ (r : List In) (k : Nat) (os : List Nat) (rs : List (Nat × Nat)) (q : List Nat × List (Nat × Nat)), docNest l r k os rs = .inr q → (∀ o ∈ os, o < k) → ∀ j, j < r.length → (r.getD j in0).op = 14 → 0 ≤ (r.getD j in0).b ∧ (r.getD j in0).b ≤ (k : Int) + j
 | [], _, _, _, _, _, _, j, hj, _ => by simp at hj
 | x :: r, k, os, rs, q, h, ho, j, hj, h14 => by
  rw [docNest] at h
  by_cases c : (docOf l k x os).1 ≠ 0
  ·rw [if_pos c] at h; simp at h
  ·rw [if_neg c] at h
   have c0 : (docOf l k x os).1 = 0 := by simpa using c
   cases j with
   | zero =>
    simp only [List.getD_cons_zero] at h14 ⊢
    unfold docOf at c0
    rw [if_neg (by omega), if_pos h14] at c0
    by_cases e : os = [] ∨ (l.getD (os.getLast?.getD 0) in0).op ≠ 13 ∨ (l.getD (os.getLast?.getD 0) in0).a ≠ x.a ∨ x.b ≠ (os.getLast?.getD 0 : Nat) + 1
    ·rw [if_pos e] at c0; simp at c0
    ·simp only [not_or, Decidable.not_not] at e
     obtain ⟨e1, -, -, e4⟩ := e
     have hm : os.getLast?.getD 0 ∈ os := by
      rw [List.getLast?_eq_some_getLast e1]
      exact List.getLast_mem e1
     have := ho _ hm
     rw [e4]; omega
   | succ j =>
    simp only [List.getD_cons_succ] at h14 ⊢
    have ho' : ∀ o ∈ (docOf l k x os).2, o < k + 1 := by
     intro o hm
     have hsub : o ∈ os ∨ o = k := by
      unfold docOf at hm
      split at hm
      ·split at hm
       ·exact .inl hm
       ·simpa using hm
      split at hm
      ·split at hm
       ·exact .inl hm
       ·exact .inl (List.dropLast_subset _ hm)
      split at hm
      ·split at hm
       ·exact .inl hm
       ·exact .inl (List.dropLast_subset _ hm)
      split at hm
      ·split at hm <;> exact .inl hm
      ·exact .inl hm
     rcases hsub with hs | hs
     ·have := ho o hs; omega
     ·omega
    have := docNest_back l r (k + 1) _ _ q h ho' j (by simpa using hj) h14
    omega
theorem good_of {l : List In} (h : docI l = (0, 0)) : ∃ M, GoodI l M := by
 unfold docI at h
 by_cases hl : 2000 < l.length
 ·rw [if_pos hl] at h; simp at h
 rw [if_neg hl] at h
 rcases hf : scan (fun _ x => formErr x) l 0 with _ | ⟨c, k⟩
 rotate_left 1
 ·rw [hf] at h; exact absurd (congrArg Prod.fst h) (scan_bad _ l 0 hf)
 rw [hf] at h
 dsimp only at h
 have hform : ∀ j, j < l.length → formErr (l.getD j in0) = 0 := fun j hj => scan_none _ l 0 hf j hj
 rcases hn : docNest l l 0 [] [] with ⟨c, k⟩ | ⟨_ | ⟨o, os⟩, rs⟩
 ·rw [hn] at h; exact absurd (congrArg Prod.fst h) (docNest_bad l l 0 [] [] hn)
 rotate_left 1
 ·rw [hn] at h
  have := congrArg Prod.fst h
  dsimp only at this
  split at this <;> simp at this
 rw [hn] at h
 dsimp only at h
 rcases hj : scan (docJump l rs) l 0 with _ | ⟨c, k⟩
 rotate_left 1
 ·rw [hj] at h; exact absurd (congrArg Prod.fst h) (scan_bad _ l 0 hj)
 rw [hj] at h
 dsimp only at h
 rcases hs : stackScan l 0 M0 with ⟨c, k⟩ | M
 ·rw [hs] at h; exact absurd (congrArg Prod.fst h) (stackScan_bad l 0 M0 hs)
 obtain ⟨h1, h2⟩ := stackScan_keeps l 0 M0 M hs
 have hpos := stackScan_pos l 0 M0 M hs (by intro z h hz; unfold M0 setH at hz; split at hz; cases hz; omega; simp at hz)
 refine ⟨M, by omega, hform, fun j hj' => ?_, fun j hj' t ht => ?_, h1 0 0 (setH_same _ _ _)⟩
 ·obtain ⟨q, q1, q2, q3, q4⟩ := h2 j hj'
  have q1' : M j = some q := by simpa using q1
  exact ⟨q, q1', hpos _ _ q1', q2, q3, fun t ht => q4 t (by simpa using ht)⟩
 ·have hfj := hform j hj'
  have hjj := scan_none _ l 0 hj j hj'
  have hbk := docNest_back l l 0 [] [] _ hn (by simp) j hj'
  rw [Nat.zero_add] at hjj
  rw [Int.natCast_zero, Int.zero_add] at hbk
  generalize l.getD j in0 = x at *
  unfold waysOf at ht
  unfold docJump at hjj
  split at ht
  ·rename_i e
   rw [if_neg (by omega)] at hjj
   simp only [List.mem_singleton] at ht
   subst ht
   split at hjj
   ·simp at hjj
   ·omega
  split at ht
  ·rename_i e
   rw [if_neg (by omega)] at hjj
   simp only [List.mem_cons, List.not_mem_nil, or_false] at ht
   split at hjj
   ·simp at hjj
   ·rcases ht with rfl | rfl <;> omega
  split at ht
  ·rename_i e
   have := hbk e
   simp only [List.mem_cons, List.not_mem_nil, or_false] at ht
   rcases ht with rfl | rfl <;> omega
  ·simp only [List.mem_singleton] at ht
   subst ht; omega
structure MI (l : List In) (M : Int → Option Int) (s : MS) : Prop where
 pc : s.pc ≤ l.length
 st : M s.pc = some (s.st.length : Int)
 vs : s.vs.length = 8
 cs : s.cs.length = 8
 low : ∀ j, 0 ≤ s.cs.getD j 0 ∧ s.cs.getD j 0 ≤ 1000
theorem MI.start {l : List In} {M : Int → Option Int} (g : GoodI l M) {vars : List Int} (hv : vars.length = 8) : MI l M (ms0 vars) := by
 refine ⟨Nat.zero_le _, by simpa [ms0] using g.zero, hv, rfl, fun j => ?_⟩
 have : ([0, 0, 0, 0, 0, 0, 0, 0] : List Int).getD j 0 = 0 := by
  by_cases h : j < 8
  ·have : j = 0 ∨ j = 1 ∨ j = 2 ∨ j = 3 ∨ j = 4 ∨ j = 5 ∨ j = 6 ∨ j = 7 := by omega
   rcases this with rfl | rfl | rfl | rfl | rfl | rfl | rfl | rfl <;> rfl
  ·rw [List.getD_eq_getElem?_getD, List.getElem?_eq_none (by simp; omega)]; rfl
 show 0 ≤ ([0, 0, 0, 0, 0, 0, 0, 0] : List Int).getD j 0 ∧ ([0, 0, 0, 0, 0, 0, 0, 0] : List Int).getD j 0 ≤ 1000
 rw [this]; omega
theorem form_op {x : In} (h : formErr x = 0) : 1 ≤ x.op ∧ x.op ≤ 18 ∧ lowA x.op.toNat ≤ x.a ∧ x.a ≤ highA x.op.toNat ∧ 0 ≤ x.b ∧ x.b ≤ highB x.op.toNat := by
 unfold formErr at h
 split at h
 ·simp at h
 split at h
 ·simp at h
 omega
theorem form_a {x : In} (h : formErr x = 0) : 0 ≤ x.a ∧ ((x.op = 2 ∨ x.op = 3 ∨ x.op = 13 ∨ x.op = 14 ∨ x.op = 15) → x.a ≤ 7) ∧ ((x.op = 9 ∨ x.op = 10) → x.a ≤ 3) ∧ (x.op = 18 → 1 ≤ x.a ∧ x.a ≤ 1000) ∧ (x.op = 13 → 0 ≤ x.b ∧ x.b ≤ 1000) ∧ ((x.op = 11 ∨ x.op = 12) → x.a ≤ 2000) ∧ (x.op = 14 → x.b ≤ 2000) ∧ 0 ≤ x.b ∧ (4 ≤ x.op ∧ x.op ≤ 8 → x.a = 0) := by
 obtain ⟨h1, h2, h3, h4, h5, h6⟩ := form_op h
 obtain ⟨op, a, b⟩ := x
 dsimp only at *
 obtain ⟨m, rfl⟩ : ∃ m : Nat, op = m := ⟨op.toNat, by omega⟩
 rw [Int.toNat_natCast] at *
 have : m = 1 ∨ m = 2 ∨ m = 3 ∨ m = 4 ∨ m = 5 ∨ m = 6 ∨ m = 7 ∨ m = 8 ∨ m = 9 ∨ m = 10 ∨ m = 11 ∨ m = 12 ∨ m = 13 ∨ m = 14 ∨ m = 15 ∨ m = 16 ∨ m = 17 ∨ m = 18 := by omega
 rcases this with rfl | rfl | rfl | rfl | rfl | rfl | rfl | rfl | rfl | rfl | rfl | rfl | rfl | rfl | rfl | rfl | rfl | rfl <;> simp [lowA, highA, highB] at h3 h4 h6 <;> omega
theorem getD_set (cs : List Int) (i j : Nat) (v : Int) : (cs.set i v).getD j 0 = if i = j ∧ i < cs.length then v else cs.getD j 0 := by
 rw [List.getD_eq_getElem?_getD, List.getD_eq_getElem?_getD, List.getElem?_set]
 by_cases h : i = j
 ·subst h
  by_cases h2 : i < cs.length
  ·rw [if_pos rfl, if_pos h2, if_pos ⟨rfl, h2⟩]; rfl
  ·rw [if_pos rfl, if_neg h2, if_neg (fun e => h2 e.2), List.getElem?_eq_none (by omega)]
 ·rw [if_neg h, if_neg (fun e => h e.1)]
theorem low_set {cs : List Int} (h : ∀ j, 0 ≤ cs.getD j 0 ∧ cs.getD j 0 ≤ 1000) {i : Nat} {v : Int} (hv : 0 ≤ v ∧ v ≤ 1000) : ∀ j, 0 ≤ (cs.set i v).getD j 0 ∧ (cs.set i v).getD j 0 ≤ 1000 := by
 intro j
 rw [getD_set]
 split
 ·exact hv
 ·exact h j
theorem next_way {x : In} (s : MS) (h : formErr x = 0) : ((nextI x s : Nat) : Int) ∈ waysOf s.pc x := by
 obtain ⟨ha, -, -, -, -, -, -, hb, -⟩ := form_a h
 unfold nextI overI waysOf
 by_cases h11 : x.op = 11
 ·simp [h11]; omega
 rw [if_neg h11, if_neg h11]
 by_cases h12 : x.op = 12
 ·by_cases c : s.top = 0
  ·simp [h12, c]; omega
  ·simp [h12, c]
 rw [if_neg h12, if_neg h12]
 by_cases h14 : x.op = 14
 ·by_cases c : 0 < s.cs.getD x.a.toNat 0
  ·simp only [h14, c]; simp; omega
  ·simp only [h14, c]; simp
 rw [if_neg h14, if_neg h14, if_neg (by simp)]
 simp
theorem mdo_height {ins : List Int} {x : In} {s : MS} (h : formErr x = 0) (ht : takesOf x.op.toNat ≤ (s.st.length : Int)) : ((mdo ins x s).st.length : Int) = s.st.length - takesOf x.op.toNat + putsOf x.op.toNat := by
 obtain ⟨h1, h2, -⟩ := form_op h
 obtain ⟨op, a, b⟩ := x
 dsimp only at *
 obtain ⟨m, rfl⟩ : ∃ m : Nat, op = m := ⟨op.toNat, by omega⟩
 rw [Int.toNat_natCast] at *
 have : m = 1 ∨ m = 2 ∨ m = 3 ∨ m = 4 ∨ m = 5 ∨ m = 6 ∨ m = 7 ∨ m = 8 ∨ m = 9 ∨ m = 10 ∨ m = 11 ∨ m = 12 ∨ m = 13 ∨ m = 14 ∨ m = 15 ∨ m = 16 ∨ m = 17 ∨ m = 18 := by omega
 rcases this with rfl | rfl | rfl | rfl | rfl | rfl | rfl | rfl | rfl | rfl | rfl | rfl | rfl | rfl | rfl | rfl | rfl | rfl <;> simp [takesOf, putsOf] at ht ⊢ <;> simp [mdo] <;> omega
theorem MI.step {l : List In} {M : Int → Option Int} {s : MS} (g : GoodI l M) (h : MI l M s) (hlt : s.pc < l.length) (ins : List Int) : MI l M (mdo ins (atI l s) s) := by
 have hf := g.form _ hlt
 have hw := next_way s hf
 have hr := g.ways _ hlt _ hw
 obtain ⟨q, q1, q0, q2, q3, q4⟩ := g.hts _ hlt
 have e : q = (s.st.length : Int) := by rw [h.st] at q1; simpa using q1.symm
 subst e
 have hh := mdo_height (ins := ins) hf q2
 have hm := q4 _ hw
 obtain ⟨-, -, -, -, f13, -⟩ := form_a hf
 show MI l M (mdo ins (l.getD s.pc in0) s)
 generalize l.getD s.pc in0 = x at *
 refine ⟨by show nextI x s ≤ _; omega, ?_, ?_, ?_, ?_⟩
 ·show M (nextI x s) = _
  rw [hm, hh]
 ·show (if x.op = 3 then s.vs.set x.a.toNat s.top else s.vs).length = 8
  split <;> simp [h.vs]
 ·show (if x.op = 13 then s.cs.set x.a.toNat x.b else if x.op = 14 then s.cs.set x.a.toNat (if 0 < s.cs.getD x.a.toNat 0 then s.cs.getD x.a.toNat 0 - 1 else 0) else if x.op = 15 then s.cs.set x.a.toNat 0 else s.cs).length = 8
  split
  ·simp [h.cs]
  split
  ·simp [h.cs]
  split
  ·simp [h.cs]
  ·exact h.cs
 ·show ∀ j, 0 ≤ (if x.op = 13 then s.cs.set x.a.toNat x.b else if x.op = 14 then s.cs.set x.a.toNat (if 0 < s.cs.getD x.a.toNat 0 then s.cs.getD x.a.toNat 0 - 1 else 0) else if x.op = 15 then s.cs.set x.a.toNat 0 else s.cs).getD j 0 ∧ (if x.op = 13 then s.cs.set x.a.toNat x.b else if x.op = 14 then s.cs.set x.a.toNat (if 0 < s.cs.getD x.a.toNat 0 then s.cs.getD x.a.toNat 0 - 1 else 0) else if x.op = 15 then s.cs.set x.a.toNat 0 else s.cs).getD j 0 ≤ 1000
  have hl := h.low x.a.toNat
  split
  ·rename_i e; exact low_set h.low (f13 e)
  split
  ·refine low_set h.low ?_
   split <;> omega
  split
  ·exact low_set h.low (by omega)
  ·exact h.low
theorem MI.here {l : List In} {M : Int → Option Int} {s : MS} (g : GoodI l M) (h : MI l M s) (hlt : s.pc < l.length) : formErr (atI l s) = 0 ∧ takesOf (atI l s).op.toNat ≤ (s.st.length : Int) ∧ (s.st.length : Int) - takesOf (atI l s).op.toNat + putsOf (atI l s).op.toNat ≤ 20 ∧ nextI (atI l s) s ≤ l.length := by
 obtain ⟨q, q1, q0, q2, q3, q4⟩ := g.hts _ hlt
 have e : q = (s.st.length : Int) := by rw [h.st] at q1; simpa using q1.symm
 subst e
 exact ⟨g.form _ hlt, q2, q3, (MI.step g h hlt []).pc⟩
theorem cost_le {x : In} (h : formErr x = 0) (o : Bool) : 1 ≤ costI x o ∧ costI x o ≤ 1000 := by
 obtain ⟨h1, h2, -⟩ := form_op h
 obtain ⟨-, -, -, h18, -⟩ := form_a h
 obtain ⟨op, a, b⟩ := x
 dsimp only at *
 obtain ⟨m, rfl⟩ : ∃ m : Nat, op = m := ⟨op.toNat, by omega⟩
 unfold costI
 dsimp only
 rw [Int.toNat_natCast] at *
 have : m = 1 ∨ m = 2 ∨ m = 3 ∨ m = 4 ∨ m = 5 ∨ m = 6 ∨ m = 7 ∨ m = 8 ∨ m = 9 ∨ m = 10 ∨ m = 11 ∨ m = 12 ∨ m = 13 ∨ m = 14 ∨ m = 15 ∨ m = 16 ∨ m = 17 ∨ m = 18 := by omega
 rcases this with rfl | rfl | rfl | rfl | rfl | rfl | rfl | rfl | rfl | rfl | rfl | rfl | rfl | rfl | rfl | rfl | rfl | rfl <;> simp [tickOf] <;> first | omega | (cases o <;> simp)
def traceF (l : List In) (ins : List Int) : Nat → MS → List (Nat × Int)
 | 0, _ => []
 | n + 1, s => if s.pc = l.length then [] else (s.pc, costI (atI l s) (overI (atI l s) s)) :: traceF l ins n (mdo ins (atI l s) s)
theorem run_at {l : List In} {ins : List Int} {n : Nat} {s : MS} {t : Int} (h : s.pc ≠ l.length) : runF l ins (n + 1) s t = runF l ins n (mdo ins (atI l s) s) (t + costI (atI l s) (overI (atI l s) s)) := by
 rw [runF, if_neg h]
theorem trace_at {l : List In} {ins : List Int} {n : Nat} {s : MS} (h : s.pc ≠ l.length) : traceF l ins (n + 1) s = (s.pc, costI (atI l s) (overI (atI l s) s)) :: traceF l ins n (mdo ins (atI l s) s) := by
 rw [traceF, if_neg h]
theorem trace_end {l : List In} {ins : List Int} {n : Nat} {s : MS} (h : s.pc = l.length) : traceF l ins n s = [] := by
 cases n with
 | zero => rfl
 | succ n => rw [traceF, if_pos h]
def machVs (iv : Value) (vs ins cs : List Int) (sv pv : Value) (pc sp : Int) (ov : Value) : List Value := iv :: (intVs vs ++ (intVs ins ++ (intVs cs ++ [sv, pv, .int .i64 pc, .int .i64 sp, ov])))
section
variable {iv : Value} {vs ins cs : List Int} {sv pv : Value} {pc sp : Int} {ov : Value}
theorem intVs_length (l : List Int) : (intVs l).length = l.length := by simp [intVs]
theorem intVs_at {l : List Int} {j : Nat} (h : j < l.length) : (intVs l)[j]? = some (.int .i64 (l.getD j 0)) := by
 simp [intVs, List.getD_eq_getElem?_getD, List.getElem?_eq_getElem h]
theorem intVs_set (l : List Int) (j : Nat) (v : Int) : (intVs l).set j (.int .i64 v) = intVs (l.set j v) := by simp [intVs, List.map_set]
theorem machVs_vs (hv : vs.length = 8) {j : Nat} (h : j < 8) : (machVs iv vs ins cs sv pv pc sp ov)[j + 1]? = some (.int .i64 (vs.getD j 0)) := by
 unfold machVs
 rw [List.getElem?_cons_succ, List.getElem?_append_left (by rw [intVs_length]; omega), intVs_at (by omega)]
theorem machVs_in (hv : vs.length = 8) (hi : ins.length = 4) {j : Nat} (h : j < 4) : (machVs iv vs ins cs sv pv pc sp ov)[j + 9]? = some (.int .i64 (ins.getD j 0)) := by
 unfold machVs
 rw [show j + 9 = (j + 8) + 1 by omega, List.getElem?_cons_succ, List.getElem?_append_right (by rw [intVs_length]; omega), intVs_length, hv, Nat.add_sub_cancel, List.getElem?_append_left (by rw [intVs_length]; omega), intVs_at (by omega)]
theorem machVs_cs (hv : vs.length = 8) (hi : ins.length = 4) (hc : cs.length = 8) {j : Nat} (h : j < 8) : (machVs iv vs ins cs sv pv pc sp ov)[j + 13]? = some (.int .i64 (cs.getD j 0)) := by
 unfold machVs
 rw [show j + 13 = (j + 12) + 1 by omega, List.getElem?_cons_succ, List.getElem?_append_right (by rw [intVs_length]; omega), intVs_length, hv, show j + 12 - 8 = j + 4 by omega, List.getElem?_append_right (by rw [intVs_length]; omega), intVs_length, hi, Nat.add_sub_cancel, List.getElem?_append_left (by rw [intVs_length]; omega), intVs_at (by omega)]
theorem machVs_rest (hv : vs.length = 8) (hi : ins.length = 4) (hc : cs.length = 8) (j : Nat) : (machVs iv vs ins cs sv pv pc sp ov)[j + 21]? = [sv, pv, .int .i64 pc, .int .i64 sp, ov][j]? := by
 unfold machVs
 rw [show j + 21 = (j + 20) + 1 by omega, List.getElem?_cons_succ, List.getElem?_append_right (by rw [intVs_length]; omega), intVs_length, hv, show j + 20 - 8 = j + 12 by omega, List.getElem?_append_right (by rw [intVs_length]; omega), intVs_length, hi, show j + 12 - 4 = j + 8 by omega, List.getElem?_append_right (by rw [intVs_length]; omega), intVs_length, hc, Nat.add_sub_cancel]
theorem machVs_setV (hv : vs.length = 8) {j : Nat} (h : j < 8) (v : Int) : (machVs iv vs ins cs sv pv pc sp ov).set (j + 1) (.int .i64 v) = machVs iv (vs.set j v) ins cs sv pv pc sp ov := by
 unfold machVs
 rw [List.set_cons_succ, List.set_append_left _ _ (by rw [intVs_length]; omega), intVs_set]
theorem machVs_setC (hv : vs.length = 8) (hi : ins.length = 4) (hc : cs.length = 8) {j : Nat} (h : j < 8) (v : Int) : (machVs iv vs ins cs sv pv pc sp ov).set (j + 13) (.int .i64 v) = machVs iv vs ins (cs.set j v) sv pv pc sp ov := by
 unfold machVs
 rw [show j + 13 = (j + 12) + 1 by omega, List.set_cons_succ, List.set_append_right _ _ (by rw [intVs_length]; omega), intVs_length, hv, show j + 12 - 8 = j + 4 by omega, List.set_append_right _ _ (by rw [intVs_length]; omega), intVs_length, hi, Nat.add_sub_cancel, List.set_append_left _ _ (by rw [intVs_length]; omega), intVs_set]
theorem machVs_setR (hv : vs.length = 8) (hi : ins.length = 4) (hc : cs.length = 8) (j : Nat) (u : Value) : (machVs iv vs ins cs sv pv pc sp ov).set (j + 21) u = iv :: (intVs vs ++ (intVs ins ++ (intVs cs ++ [sv, pv, .int .i64 pc, .int .i64 sp, ov].set j u))) := by
 unfold machVs
 rw [show j + 21 = (j + 20) + 1 by omega, List.set_cons_succ, List.set_append_right _ _ (by rw [intVs_length]; omega), intVs_length, hv, show j + 20 - 8 = j + 12 by omega, List.set_append_right _ _ (by rw [intVs_length]; omega), intVs_length, hi, show j + 12 - 4 = j + 8 by omega, List.set_append_right _ _ (by rw [intVs_length]; omega), intVs_length, hc, Nat.add_sub_cancel]
theorem machVs_setS (hv : vs.length = 8) (hi : ins.length = 4) (hc : cs.length = 8) (u : Value) : (machVs iv vs ins cs sv pv pc sp ov).set 21 u = machVs iv vs ins cs u pv pc sp ov := machVs_setR hv hi hc 0 u
theorem machVs_setP (hv : vs.length = 8) (hi : ins.length = 4) (hc : cs.length = 8) (u : Value) : (machVs iv vs ins cs sv pv pc sp ov).set 22 u = machVs iv vs ins cs sv u pc sp ov := machVs_setR hv hi hc 1 u
theorem machVs_setA (hv : vs.length = 8) (hi : ins.length = 4) (hc : cs.length = 8) (z : Int) : (machVs iv vs ins cs sv pv pc sp ov).set 23 (.int .i64 z) = machVs iv vs ins cs sv pv z sp ov := machVs_setR hv hi hc 2 _
theorem machVs_setT (hv : vs.length = 8) (hi : ins.length = 4) (hc : cs.length = 8) (z : Int) : (machVs iv vs ins cs sv pv pc sp ov).set 24 (.int .i64 z) = machVs iv vs ins cs sv pv pc z ov := machVs_setR hv hi hc 3 _
end
def putVs (l : List (Int × Int)) : List Value := l.flatMap fun p => [.int .i64 p.1, .int .i64 p.2]
theorem putVs_snoc (l : List (Int × Int)) (p : Int × Int) : putVs (l ++ [p]) = putVs l ++ [.int .i64 p.1, .int .i64 p.2] := by
 simp [putVs]
theorem cell_same {w w' : World} {b o : Nat} (h : w'.heap[b]? = w.heap[b]?) : w'.cell? ⟨b, o, none⟩ = w.cell? ⟨b, o, none⟩ := by
 unfold World.cell?
 simp only [h]
def opsEs (g : Nat) : Array MapEntry := #[⟨.int .i64 4, .func (Fn.func 76) #[] #[], 0⟩, ⟨.int .i64 5, .func (Fn.func 77) #[] #[], 1⟩, ⟨.int .i64 6, .func (Fn.func 78) #[] #[], 2⟩, ⟨.int .i64 7, .func (Fn.func 79) #[] #[.pointer (some ⟨g, 0, none⟩)], 3⟩, ⟨.int .i64 8, .func (Fn.func 80) #[] #[.pointer (some ⟨g, 0, none⟩)], 4⟩]
def OpsAt (w : World) (mb : Nat) (ov : Value) : Prop := ∃ q g, ov = .map (some q) ∧ q < mb ∧ g < mb ∧ w.heap[q]? = some (.map (opsEs g) 5) ∧ w.heap[g]? = some (.cells #[.func (Fn.func 75) #[] #[]] 135 (0, 0))
theorem OpsAt.keep {w w' : World} {mb : Nat} {ov : Value} (h : OpsAt w mb ov) (hb : ∀ k, k < mb → w'.heap[k]? = w.heap[k]?) : OpsAt w' mb ov := by
 obtain ⟨q, g, h1, h2, h3, h4, h5⟩ := h
 exact ⟨q, g, h1, h2, h3, (hb q h2).trans h4, (hb g h3).trans h5⟩
def ImgAt (w : World) (mb : Nat) (l : List In) (iv : Value) : Prop := InSl w l iv ∧ ∀ ad n c, iv = .slice (some ad) n c → ad.block < mb
theorem ImgAt.keep {w w' : World} {mb : Nat} {l : List In} {iv : Value} (h : ImgAt w mb l iv) (hb : ∀ k, k < mb → w'.heap[k]? = w.heap[k]?) : ImgAt w' mb l iv := by
 obtain ⟨⟨ad, c, rfl, h2⟩, h3⟩ := h
 refine ⟨⟨ad, c, rfl, ?_⟩, h3⟩
 rcases h2 with h2 | ⟨b, o, rfl, h4⟩
 ·exact .inl h2
 ·have hlt : b < mb := h3 _ _ _ rfl
  refine .inr ⟨b, o, rfl, fun j hj => ?_⟩
  obtain ⟨c0, c1, c2⟩ := h4 j hj
  exact ⟨(cell_same (hb b hlt)).trans c0, (cell_same (hb b hlt)).trans c1, (cell_same (hb b hlt)).trans c2⟩
structure MM (w : World) (mb B : Nat) (l : List In) (iv ov : Value) (ins : List Int) (sp : Int) (s : MS) (sv pv : Value) : Prop where
 blk : w.heap[mb]? = some (.cells (machVs iv s.vs ins s.cs sv pv (s.pc : Int) sp ov).toArray 85 (0, 0))
 stk : w.ownsRow B 3 1 sv s.st.length (intVs s.st)
 pts : w.ownsRow B 43 2 pv s.ps.length (putVs s.ps)
 apt : ∀ k, sv.ownBlock = some k → pv.ownBlock ≠ some k
 lv : s.vs.length = 8
 li : ins.length = 4
 lc : s.cs.length = 8
 nmb : mb < B
 bas : B ≤ w.heap.size
 img : ImgAt w mb l iv
 ops : OpsAt w mb ov
structure MR (mb : Nat) (w w' : World) (sv pv sv' pv' : Value) : Prop where
 os : w'.os = w.os
 tape : w'.tape = w.tape
 output : w'.output = w.output
 size : w.heap.size ≤ w'.heap.size
 block : ∀ k, k < w.heap.size → k ≠ mb → some k ≠ sv.ownBlock → some k ≠ pv.ownBlock → w'.heap[k]? = w.heap[k]?
 ownS : sv'.ownBlock = sv.ownBlock ∨ ∀ k, sv'.ownBlock = some k → w.heap.size ≤ k
 ownP : pv'.ownBlock = pv.ownBlock ∨ ∀ k, pv'.ownBlock = some k → w.heap.size ≤ k
theorem MR.refl (mb : Nat) (w : World) (sv pv : Value) : MR mb w w sv pv sv pv := ⟨rfl, rfl, rfl, Nat.le_refl _, fun _ _ _ _ _ => rfl, .inl rfl, .inl rfl⟩
theorem MR.trans {mb : Nat} {a b c : World} {sv pv sv' pv' sv'' pv'' : Value} (h : MR mb a b sv pv sv' pv') (h' : MR mb b c sv' pv' sv'' pv'') : MR mb a c sv pv sv'' pv'' := by
 refine ⟨h'.os.trans h.os, h'.tape.trans h.tape, h'.output.trans h.output, Nat.le_trans h.size h'.size, fun k hk h1 h2 h3 => ?_, ?_, ?_⟩
 ·refine (h'.block k (by have := h.size; omega) h1 (fun e => ?_) (fun e => ?_)).trans (h.block k hk h1 h2 h3)
  ·rcases h.ownS with ho | ho
   ·exact h2 (e.trans ho)
   ·have := ho k e.symm; omega
  ·rcases h.ownP with ho | ho
   ·exact h3 (e.trans ho)
   ·have := ho k e.symm; omega
 ·rcases h'.ownS with ho' | ho'
  ·rw [ho']; exact h.ownS
  ·right; intro k hk; have := ho' k hk; have := h.size; omega
 ·rcases h'.ownP with ho' | ho'
  ·rw [ho']; exact h.ownP
  ·right; intro k hk; have := ho' k hk; have := h.size; omega
theorem MR.of_below {mb : Nat} {a b : World} {sv pv : Value} (h : Below a.heap.size a b) : MR mb a b sv pv sv pv := ⟨h.os, h.tape, h.output, h.size, fun k hk _ _ _ => h.block k hk, .inl rfl, .inl rfl⟩
theorem MR.grown {mb : Nat} {a b : World} {sv pv : Value} {row : Option Nat} (h : a.grownBy b row) (hr : row = sv.ownBlock ∨ row = pv.ownBlock) {sv' pv' : Value} (h1 : sv'.ownBlock = sv.ownBlock ∨ ∀ k, sv'.ownBlock = some k → a.heap.size ≤ k) (h2 : pv'.ownBlock = pv.ownBlock ∨ ∀ k, pv'.ownBlock = some k → a.heap.size ≤ k) : MR mb a b sv pv sv' pv' :=
 ⟨h.os, h.tape, h.output, h.size, fun k hk _ g1 g2 => h.block k hk (by rcases hr with hr | hr <;> rw [hr] <;> assumption), h1, h2⟩
theorem MR.set {mb : Nat} {a b : World} {sv pv sv' pv' : Value} (h : MR mb a b sv pv sv' pv') (i : Nat) (u : Value) : MR mb a (b.setCell ⟨mb, i, none⟩ u) sv pv sv' pv' :=
 ⟨h.os, h.tape, h.output, by rw [show (b.setCell ⟨mb, i, none⟩ u).heap.size = b.heap.size by simp]; exact h.size, fun k hk h1 h2 h3 => (Below.heap_setCell _ _ _ _ (by show k ≠ mb; exact h1)).trans (h.block k hk h1 h2 h3), h.ownS, h.ownP⟩
section
variable {w w' : World} {mb B : Nat} {l : List In} {iv ov : Value} {ins : List Int} {sp : Int} {s : MS} {sv pv : Value}
theorem MM.lt (h : MM w mb B l iv ov ins sp s sv pv) : mb < w.heap.size := (Array.getElem?_eq_some_iff.1 h.blk).1
theorem MM.grow (h : MM w mb B l iv ov ins sp s sv pv) (hb : Below w.heap.size w w') : MM w' mb B l iv ov ins sp s sv pv := by
 have hm := h.lt
 exact ⟨(hb.block mb hm).trans h.blk, ownsRow_same h.stk (fun k _ hk => hb.block k hk), ownsRow_same h.pts (fun k _ hk => hb.block k hk), h.apt, h.lv, h.li, h.lc, h.nmb, Nat.le_trans h.bas hb.size, h.img.keep (fun k hk => hb.block k (by omega)), h.ops.keep (fun k hk => hb.block k (by omega))⟩
theorem MM.change (h : MM w mb B l iv ov ins sp s sv pv) {i : Nat} {u : Value} {sp' : Int} {s' : MS} {sv' pv' : Value} (hr : MR mb w w' sv pv sv' pv') (hm : w'.heap[mb]? = w.heap[mb]?)
  (hset : (machVs iv s.vs ins s.cs sv pv (s.pc : Int) sp ov).set i u = machVs iv s'.vs ins s'.cs sv' pv' (s'.pc : Int) sp' ov)
  (hs : w'.ownsRow B 3 1 sv' s'.st.length (intVs s'.st)) (hp : w'.ownsRow B 43 2 pv' s'.ps.length (putVs s'.ps)) (ha : ∀ k, sv'.ownBlock = some k → pv'.ownBlock ≠ some k) (lv : s'.vs.length = 8) (lc : s'.cs.length = 8) :
  MM (w'.setCell ⟨mb, i, none⟩ u) mb B l iv ov ins sp' s' sv' pv' := by
 have hn := h.nmb
 have hlt := h.lt
 have nb : ∀ k, k < mb → (w'.setCell ⟨mb, i, none⟩ u).heap[k]? = w.heap[k]? := fun k hk =>
  (Below.heap_setCell _ _ _ _ (by show k ≠ mb; omega)).trans (hr.block k (by omega) (by omega) (fun e => by have := (h.stk.lt k e.symm).1; omega) (fun e => by have := (h.pts.lt k e.symm).1; omega))
 refine ⟨?_, ownsRow_same hs (fun k hk _ => Below.heap_setCell _ _ _ _ (by show k ≠ mb; omega)), ownsRow_same hp (fun k hk _ => Below.heap_setCell _ _ _ _ (by show k ≠ mb; omega)), ha, lv, h.li, lc, h.nmb, by have := h.bas; have := hr.size; simp; omega, h.img.keep nb, h.ops.keep nb⟩
 rw [setCell_at (hm.trans h.blk), List.setIfInBounds_toArray, hset]
theorem MM.cells (h : MM w mb B l iv ov ins sp s sv pv) : (∀ j u, (machVs iv s.vs ins s.cs sv pv (s.pc : Int) sp ov)[j]? = some u → w.cell? ⟨mb, j, none⟩ = some u) ∧ (∀ j, w.frozen? ⟨mb, j, none⟩ = false) ∧ mb < w.heap.size := cells_of h.blk
theorem MM.c_iv (h : MM w mb B l iv ov ins sp s sv pv) : w.cell? ⟨mb, 0, none⟩ = some iv := h.cells.1 0 _ rfl
theorem MM.c_vs (h : MM w mb B l iv ov ins sp s sv pv) {j : Nat} (hj : j < 8) : w.cell? ⟨mb, j + 1, none⟩ = some (.int .i64 (s.vs.getD j 0)) := h.cells.1 _ _ (machVs_vs h.lv hj)
theorem MM.c_in (h : MM w mb B l iv ov ins sp s sv pv) {j : Nat} (hj : j < 4) : w.cell? ⟨mb, j + 9, none⟩ = some (.int .i64 (ins.getD j 0)) := h.cells.1 _ _ (machVs_in h.lv h.li hj)
theorem MM.c_cs (h : MM w mb B l iv ov ins sp s sv pv) {j : Nat} (hj : j < 8) : w.cell? ⟨mb, j + 13, none⟩ = some (.int .i64 (s.cs.getD j 0)) := h.cells.1 _ _ (machVs_cs h.lv h.li h.lc hj)
theorem MM.c_sv (h : MM w mb B l iv ov ins sp s sv pv) : w.cell? ⟨mb, 21, none⟩ = some sv := h.cells.1 _ _ (machVs_rest h.lv h.li h.lc 0)
theorem MM.c_pv (h : MM w mb B l iv ov ins sp s sv pv) : w.cell? ⟨mb, 22, none⟩ = some pv := h.cells.1 _ _ (machVs_rest h.lv h.li h.lc 1)
theorem MM.c_pc (h : MM w mb B l iv ov ins sp s sv pv) : w.cell? ⟨mb, 23, none⟩ = some (.int .i64 s.pc) := h.cells.1 _ _ (machVs_rest h.lv h.li h.lc 2)
theorem MM.c_sp (h : MM w mb B l iv ov ins sp s sv pv) : w.cell? ⟨mb, 24, none⟩ = some (.int .i64 sp) := h.cells.1 _ _ (machVs_rest h.lv h.li h.lc 3)
theorem MM.c_ov (h : MM w mb B l iv ov ins sp s sv pv) : w.cell? ⟨mb, 25, none⟩ = some ov := h.cells.1 _ _ (machVs_rest h.lv h.li h.lc 4)
theorem MM.setV (h : MM w mb B l iv ov ins sp s sv pv) {j : Nat} (hj : j < 8) (v : Int) : MM (w.setCell ⟨mb, j + 1, none⟩ (.int .i64 v)) mb B l iv ov ins sp { s with vs := s.vs.set j v } sv pv :=
 h.change (s' := { s with vs := s.vs.set j v }) (MR.refl _ _ _ _) rfl (machVs_setV h.lv hj v) h.stk h.pts h.apt (by simp [h.lv]) h.lc
theorem MM.setC (h : MM w mb B l iv ov ins sp s sv pv) {j : Nat} (hj : j < 8) (v : Int) : MM (w.setCell ⟨mb, j + 13, none⟩ (.int .i64 v)) mb B l iv ov ins sp { s with cs := s.cs.set j v } sv pv :=
 h.change (s' := { s with cs := s.cs.set j v }) (MR.refl _ _ _ _) rfl (machVs_setC h.lv h.li h.lc hj v) h.stk h.pts h.apt h.lv (by simp [h.lc])
theorem MM.setA (h : MM w mb B l iv ov ins sp s sv pv) (z : Nat) : MM (w.setCell ⟨mb, 23, none⟩ (.int .i64 (z : Int))) mb B l iv ov ins sp { s with pc := z } sv pv :=
 h.change (s' := { s with pc := z }) (MR.refl _ _ _ _) rfl (machVs_setA h.lv h.li h.lc z) h.stk h.pts h.apt h.lv h.lc
theorem MM.setT (h : MM w mb B l iv ov ins sp s sv pv) (z : Int) : MM (w.setCell ⟨mb, 24, none⟩ (.int .i64 z)) mb B l iv ov ins z s sv pv :=
 h.change (s' := s) (MR.refl _ _ _ _) rfl (machVs_setT h.lv h.li h.lc z) h.stk h.pts h.apt h.lv h.lc
theorem MM.pushS (h : MM w mb B l iv ov ins sp s sv pv) {st' : List Int} {sv' : Value} (hg : w.grownBy w' sv.ownBlock) (ho : w'.ownsRow B 3 1 sv' st'.length (intVs st')) (hv : sv'.ownBlock = sv.ownBlock ∨ ∀ k, sv'.ownBlock = some k → w.heap.size ≤ k) :
  MM (w'.setCell ⟨mb, 21, none⟩ sv') mb B l iv ov ins sp { s with st := st' } sv' pv ∧ MR mb w (w'.setCell ⟨mb, 21, none⟩ sv') sv pv sv' pv := by
 have hn := h.nmb
 have hr : MR mb w w' sv pv sv' pv := MR.grown hg (.inl rfl) hv (.inl rfl)
 refine ⟨h.change (s' := { s with st := st' }) hr (hg.block mb h.lt (fun e => by have := (h.stk.lt mb e.symm).1; omega)) (machVs_setS h.lv h.li h.lc sv') ho ?_ ?_ h.lv h.lc, hr.set _ _⟩
 ·obtain ⟨hl, h1 | ⟨g, cap, cur, he, hb, hgg, hr'⟩⟩ := h.pts
  ·exact ⟨hl, .inl h1⟩
  ·exact ⟨hl, .inr ⟨g, cap, cur, he, hb, (hg.block g (Array.getElem?_eq_some_iff.1 hgg).1 (fun e => h.apt g e.symm (by rw [he]; rfl))).trans hgg, hr'⟩⟩
 ·intro k hk hk'
  rcases hv with hv | hv
  ·rw [hv] at hk; exact h.apt k hk hk'
  ·have h1 := hv k hk; have h2 := (h.pts.lt k hk').2; omega
theorem MM.pushP (h : MM w mb B l iv ov ins sp s sv pv) {ps' : List (Int × Int)} {pv' : Value} (hg : w.grownBy w' pv.ownBlock) (ho : w'.ownsRow B 43 2 pv' ps'.length (putVs ps')) (hv : pv'.ownBlock = pv.ownBlock ∨ ∀ k, pv'.ownBlock = some k → w.heap.size ≤ k) :
  MM (w'.setCell ⟨mb, 22, none⟩ pv') mb B l iv ov ins sp { s with ps := ps' } sv pv' ∧ MR mb w (w'.setCell ⟨mb, 22, none⟩ pv') sv pv sv pv' := by
 have hn := h.nmb
 have hr : MR mb w w' sv pv sv pv' := MR.grown hg (.inr rfl) (.inl rfl) hv
 refine ⟨h.change (s' := { s with ps := ps' }) hr (hg.block mb h.lt (fun e => by have := (h.pts.lt mb e.symm).1; omega)) (machVs_setP h.lv h.li h.lc pv') ?_ ho ?_ h.lv h.lc, hr.set _ _⟩
 ·obtain ⟨hl, h1 | ⟨g, cap, cur, he, hb, hgg, hr'⟩⟩ := h.stk
  ·exact ⟨hl, .inl h1⟩
  ·exact ⟨hl, .inr ⟨g, cap, cur, he, hb, (hg.block g (Array.getElem?_eq_some_iff.1 hgg).1 (fun e => h.apt g (by rw [he]; rfl) e.symm)).trans hgg, hr'⟩⟩
 ·intro k hk hk'
  rcases hv with hv | hv
  ·rw [hv] at hk'; exact h.apt k hk hk'
  ·have h1 := hv k hk'; have h2 := (h.stk.lt k hk).2; omega
theorem st_shrink {ad : Option Addr} {c n : Nat} {st : List Int} (h : w.ownsRow B 3 1 (.slice ad (n + 1) c) st.length (intVs st)) (hn : st.length = n + 1) : w.ownsRow B 3 1 (.slice ad n c) st.dropLast.length (intVs st.dropLast) := by
 have hd : st.dropLast.length = n := by simp [hn]
 obtain ⟨hl, ⟨e, he⟩ | ⟨g, cap, cur, e, hb, hg, hc, hm, hs, ht⟩⟩ := h
 ·omega
 ·simp only [Value.slice.injEq] at e
  obtain ⟨rfl, -, rfl⟩ := e
  refine ⟨by simp [intVs], .inr ⟨g, c, cur, by rw [hd], hb, hg, by omega, hm, hs, ?_⟩⟩
  have e2 : intVs st.dropLast = (intVs st).take (st.dropLast.length * 1) := by
   rw [hd, Nat.mul_one]
   unfold intVs
   rw [← List.map_take, List.dropLast_eq_take, hn]
   rfl
  rw [e2, ← ht, List.take_take]
  congr 1
  omega
theorem MM.pop {ad : Option Addr} {n c : Nat} (h : MM w mb B l iv ov ins sp s (.slice ad (n + 1) c) pv) (hn : s.st.length = n + 1) :
  MM (w.setCell ⟨mb, 21, none⟩ (.slice ad n c)) mb B l iv ov ins sp { s with st := s.st.dropLast } (.slice ad n c) pv ∧ MR mb w (w.setCell ⟨mb, 21, none⟩ (.slice ad n c)) (.slice ad (n + 1) c) pv (.slice ad n c) pv :=
 h.pushS ⟨rfl, rfl, rfl, Nat.le_refl _, fun _ _ _ => rfl⟩ (st_shrink h.stk hn) (.inl (by cases ad <;> rfl))
theorem MM.tops (h : MM w mb B l iv ov ins sp s sv pv) {n : Nat} (hn : s.st.length = n + 1) : ∃ (b o c : Nat), sv = .slice (some ⟨b, o, none⟩) (n + 1) c ∧ w.cell? ⟨b, o + n, none⟩ = some (.int .i64 s.top) ∧ b < w.heap.size ∧ b ≠ mb ∧ n + 1 ≤ c := by
 have hm := h.nmb
 have hb := h.stk
 rw [hn] at hb
 have hb' := hb
 obtain ⟨-, ⟨e, he⟩ | ⟨g, cap, cur, e, hB, hg, hc, -, -, -⟩⟩ := hb'
 ·omega
 ·refine ⟨g, 0, cap, e, ?_, (Array.getElem?_eq_some_iff.1 hg).1, by omega, hc⟩
  subst e
  have h1 := hb.cellAt n (by omega)
  rw [intVs_at (by omega)] at h1
  rw [Nat.zero_add]
  have ht : s.top = s.st.getD n 0 := by
   unfold MS.top
   rw [List.getLast?_eq_getElem?, hn, Nat.add_sub_cancel, List.getD_eq_getElem?_getD]
  rw [ht]
  exact h1
end
theorem MM.pushed {w w4 : World} {mb B : Nat} {l : List In} {iv ov : Value} {ins : List Int} {sp : Int} {s : MS} {sv pv : Value} {z : Int} {ad4 : Option Addr} {c4 : Nat} (h : MM w mb B l iv ov ins sp s sv pv) (ho4 : w4.ownsRow B 3 1 (.slice ad4 (s.st.length + 1) c4) (s.st.length + 1) (intVs (s.st ++ [z]))) (hg4 : (w.alloc (.cells #[.int .i64 z] 3)).grownBy w4 sv.ownBlock) (hv4 : (Value.slice ad4 (s.st.length + 1) c4).ownBlock = sv.ownBlock ∨ ∀ k, (Value.slice ad4 (s.st.length + 1) c4).ownBlock = some k → (w.alloc (.cells #[.int .i64 z] 3)).heap.size ≤ k) :
  MM (w4.setCell ⟨mb, 21, none⟩ (.slice ad4 (s.st.length + 1) c4)) mb B l iv ov ins sp { s with st := s.st ++ [z] } (.slice ad4 (s.st.length + 1) c4) pv ∧ MR mb w (w4.setCell ⟨mb, 21, none⟩ (.slice ad4 (s.st.length + 1) c4)) sv pv (.slice ad4 (s.st.length + 1) c4) pv ∧ mb < w4.heap.size ∧ w4.cell? ⟨mb, 21, none⟩ = some sv ∧ ∀ j, w4.frozen? ⟨mb, j, none⟩ = false := by
 have hn := h.nmb
 have hb4 := (hg4.block mb (by have := h.lt; simp; omega) (fun e => by have := (h.stk.lt mb e.symm).1; omega)).trans (h.grow (below_new w _)).blk
 obtain ⟨p1, p2⟩ := (h.grow (below_new w (.cells #[.int .i64 z] 3))).pushS hg4 (st' := s.st ++ [z]) (by rw [List.length_append]; exact ho4) hv4
 exact ⟨p1, (MR.of_below (below_new w _)).trans p2, (cells_of hb4).2.2, (cells_of hb4).1 _ _ (machVs_rest h.lv h.li h.lc 0), (cells_of hb4).2.1⟩
set_option maxRecDepth 20000 in
set_option maxHeartbeats 4000000 in
theorem push_any (w : World) (mb B : Nat) (l : List In) (iv ov : Value) (ins : List Int) (sp : Int) (s : MS) (sv pv : Value) (z : Int) (h : MM w mb B l iv ov ins sp s sv pv) (hl : s.st.length ≤ 4000000) :
  Calls Tryd.prog 72 #[.pointer (some ⟨mb, 0, none⟩), .int .i64 z] w fun r w' => r = .returned (.tuple #[]) ∧ ∃ sv', MM w' mb B l iv ov ins sp { s with st := s.st ++ [z] } sv' pv ∧ MR mb w w' sv pv sv' pv := by
 have lm := h.lt
 have c21 := h.c_sv
 have f21 := h.cells.2.1
 have HM : Hid (MM w mb B l iv ov ins sp s sv pv) := h
 have hbas := h.bas
 clear h
 go_enter Tryd.func72, Tryd.ntmps72
 go_wp2_with (at_builtin; refine wp_push2 rfl (.tmp 8) (.tmp 10) rfl B sv s.st z w.heap.size s.st.length rfl rfl rfl rfl HM.out.stk hbas hl ?_; intro ad4 c4 w4 ho4 hg4 hv4; obtain ⟨p1, p2, l4, x4, f4⟩ := HM.out.pushed ho4 hg4 hv4; have HP : Hid (MM _ _ _ _ _ _ _ _ _ _ _ ∧ MR _ _ _ _ _ _ _) := ⟨p1, p2⟩; clear ho4 hg4 hv4 p1 p2)
 go_end0
 exact ⟨rfl, _, HP.out.1, HP.out.2⟩
set_option maxRecDepth 20000 in
set_option maxHeartbeats 4000000 in
theorem pop_any (w : World) (mb B : Nat) (l : List In) (iv ov : Value) (ins : List Int) (sp : Int) (s : MS) (sv pv : Value) (n : Nat) (h : MM w mb B l iv ov ins sp s sv pv) (hn : s.st.length = n + 1) (hl : n ≤ 4000000) :
  Calls Tryd.prog 73 #[.pointer (some ⟨mb, 0, none⟩)] w fun r w' => r = .returned (.int .i64 s.top) ∧ ∃ sv', MM w' mb B l iv ov ins sp { s with st := s.st.dropLast } sv' pv ∧ MR mb w w' sv pv sv' pv := by
 have lm := h.lt
 have c21 := h.c_sv
 have f21 := h.cells.2.1
 obtain ⟨b, o, c, rfl, ctop, lb, nb, hc⟩ := h.tops hn
 have HM : Hid (MM w mb B l iv ov ins sp s (.slice (some ⟨b, o, none⟩) (n + 1) c) pv) := h
 clear h
 go_enter Tryd.func73, Tryd.ntmps73
 go_wp2_with fail
 go_ret
 exact ⟨rfl, _, (HM.out.pop hn).1, (HM.out.pop hn).2⟩
section
variable (w : World) (mb B : Nat) (l : List In) (iv ov : Value) (ins : List Int) (sp : Int) (s : MS) (sv pv : Value)
set_option maxRecDepth 20000 in
set_option maxHeartbeats 4000000 in
theorem over_11 (a b : Int) : Calls Tryd.prog 42 #[.pointer (some ⟨mb, 0, none⟩), .agg #[.int .i64 11, .int .i64 a, .int .i64 b]] w fun r w' => r = .returned (.bool true) ∧ Below w.heap.size w w' := by
 go_enter Tryd.func42, Tryd.ntmps42
 go_wp2_with fail
 go_ret
 exact ⟨rfl, below_new _ _⟩
set_option maxRecDepth 20000 in
set_option maxHeartbeats 4000000 in
theorem over_12 (a b : Int) (n : Nat) (h : MM w mb B l iv ov ins sp s sv pv) (hn : s.st.length = n + 1) (hl : n ≤ 4000000) : Calls Tryd.prog 42 #[.pointer (some ⟨mb, 0, none⟩), .agg #[.int .i64 12, .int .i64 a, .int .i64 b]] w fun r w' => r = .returned (.bool (s.top == 0)) ∧ Below w.heap.size w w' := by
 have lm := h.lt
 have c21 := h.c_sv
 obtain ⟨b', o, c, rfl, ctop, lb, nb, hc⟩ := h.tops hn
 clear h
 generalize s.top = tp at *
 go_enter Tryd.func42, Tryd.ntmps42
 go_wp2_with fail
 go_quiet (fail)
 go_wp2_with fail
 go_ret
 exact ⟨rfl, below_seq' (below_new _ _)⟩
set_option maxRecDepth 20000 in
set_option maxHeartbeats 4000000 in
theorem over_14 (m : Nat) (b : Int) (h : MM w mb B l iv ov ins sp s sv pv) (hm : m < 8) : Calls Tryd.prog 42 #[.pointer (some ⟨mb, 0, none⟩), .agg #[.int .i64 14, .int .i64 (m : Int), .int .i64 b]] w fun r w' => r = .returned (.bool (decide (0 < s.cs.getD m 0))) ∧ Below w.heap.size w w' := by
 have lm := h.lt
 have cc := h.c_cs hm
 rw [Nat.add_comm] at cc
 clear h
 generalize s.cs.getD m 0 = tp at *
 go_enter Tryd.func42, Tryd.ntmps42
 go_wp2_with fail
 go_quiet (fail)
 go_wp2_with fail
 go_ret
 exact ⟨rfl, below_seq' (below_new _ _)⟩
set_option maxRecDepth 20000 in
set_option maxHeartbeats 4000000 in
theorem over_other (op a b : Int) (h1 : op ≠ 11) (h2 : op ≠ 12) (h3 : op ≠ 14) : Calls Tryd.prog 42 #[.pointer (some ⟨mb, 0, none⟩), .agg #[.int .i64 op, .int .i64 a, .int .i64 b]] w fun r w' => r = .returned (.bool false) ∧ Below w.heap.size w w' := by
 have f1 : (op == 11) = false := by simpa using h1
 have f2 : (op == 12) = false := by simpa using h2
 have f3 : (op == 14) = false := by simpa using h3
 go_enter Tryd.func42, Tryd.ntmps42
 go_wp2_with fail
 go_ret
 exact ⟨rfl, below_new _ _⟩
end
theorem over_any (w : World) (mb B : Nat) (l : List In) (iv ov : Value) (ins : List Int) (sp : Int) (s : MS) (sv pv : Value) (x : In) (h : MM w mb B l iv ov ins sp s sv pv) (hf : formErr x = 0) (ht : takesOf x.op.toNat ≤ (s.st.length : Int)) (hl : s.st.length ≤ 4000000) :
  Calls Tryd.prog 42 #[.pointer (some ⟨mb, 0, none⟩), x.val] w fun r w' => r = .returned (.bool (overI x s)) ∧ Below w.heap.size w w' := by
 obtain ⟨ha, h7, -⟩ := form_a hf
 obtain ⟨op, a, b⟩ := x
 dsimp only at *
 show Calls Tryd.prog 42 #[.pointer (some ⟨mb, 0, none⟩), .agg #[.int .i64 op, .int .i64 a, .int .i64 b]] w _
 unfold overI
 dsimp only
 by_cases e1 : op = 11
 ·subst e1
  rw [if_pos rfl]
  exact over_11 w mb a b
 rw [if_neg e1]
 by_cases e2 : op = 12
 ·subst e2
  rw [if_pos rfl]
  have : takesOf (Int.toNat 12) = 1 := by decide
  obtain ⟨n, hn⟩ : ∃ n, s.st.length = n + 1 := ⟨s.st.length - 1, by omega⟩
  have := over_12 w mb B l iv ov ins sp s sv pv a b n h hn (by omega)
  rwa [show (s.top == 0) = decide (s.top = 0) by rfl] at this
 rw [if_neg e2]
 by_cases e3 : op = 14
 ·subst e3
  rw [if_pos rfl]
  obtain ⟨m, rfl⟩ : ∃ m : Nat, a = m := ⟨a.toNat, by omega⟩
  rw [Int.toNat_natCast]
  exact over_14 w mb B l iv ov ins sp s sv pv m b h (by have := h7 (by omega); omega)
 rw [if_neg e3]
 exact over_other w mb op a b e1 e2 e3
end Go.Proofs.YtibcbdihphbfeacDoor
