import Derived.Test.YtcmoehednkaehadDoorDNest
namespace Go.Proofs.YtcmoehednkaehadDoor

/-- A better region for an instruction: the document's. -/
def better (i : Nat) (best : Option (Nat × Nat)) (r : Nat × Nat) : Option (Nat × Nat) :=
  if r.1 < i ∧ i ≤ r.2 ∧ (best = none ∨ (best.getD (0, 0)).1 < r.1) then some r else best

def innerOf (rs : List (Nat × Nat)) (i : Nat) : Option (Nat × Nat) := rs.foldl (better i) none

theorem inner_from (i : Nat) : ∀ (rs : List (Nat × Nat)) (b : Option (Nat × Nat)),
    (rs.foldl (better i) b = b ∨ ∃ r ∈ rs, rs.foldl (better i) b = some r ∧ r.1 < i ∧ i ≤ r.2) ∧ (∀ r ∈ rs, r.1 < i → i ≤ r.2 → ∃ q, rs.foldl (better i) b = some q ∧ r.1 ≤ q.1) ∧ (∀ q, b = some q → ∃ q', rs.foldl (better i) b = some q' ∧ q.1 ≤ q'.1)
  | [], b => ⟨.inl rfl, by simp, fun q h => ⟨q, h, Nat.le_refl _⟩⟩
  | r :: rs, b => by
    obtain ⟨h1, h2, h3⟩ := inner_from i rs (better i b r)
    rw [List.foldl_cons]
    refine ⟨?_, ?_, ?_⟩
    · rcases h1 with h1 | ⟨q, hq, h1, h1'⟩
      · rw [h1]
        unfold better
        split
        · rename_i c; exact .inr ⟨r, by simp, rfl, c.1, c.2.1⟩
        · exact .inl rfl
      · exact .inr ⟨q, by simp [hq], h1, h1'⟩
    · intro q hq hq1 hq2
      rcases List.mem_cons.1 hq with rfl | hq
      · by_cases c : b = none ∨ (b.getD (0, 0)).1 < q.1
        · have e : better i b q = some q := by unfold better; rw [if_pos ⟨hq1, hq2, c⟩]
          exact h3 q e
        · have e : better i b q = b := by unfold better; rw [if_neg (fun x => c x.2.2)]
          rcases b with _ | p
          · exact absurd (.inl rfl) c
          · obtain ⟨q', a1, a2⟩ := h3 p e
            simp at c
            exact ⟨q', a1, by omega⟩
      · exact h2 q hq hq1 hq2
    · intro q hq
      subst hq
      by_cases c : r.1 < i ∧ i ≤ r.2 ∧ (some q = none ∨ ((some q).getD (0, 0)).1 < r.1)
      · have e : better i (some q) r = some r := by unfold better; rw [if_pos c]
        obtain ⟨q', a1, a2⟩ := h3 r e
        have := c.2.2
        simp at this
        exact ⟨q', a1, by omega⟩
      · have e : better i (some q) r = some q := by unfold better; rw [if_neg c]
        exact h3 q e

theorem NI.inner {l : List In} {rs : List (Nat × Nat)} {ws : List Int} (h : NI l l.length [] rs ws) {k : Nat} (hk : k ≤ l.length) : (innerOf rs k = none ∧ ws.getD k 0 = 0) ∨ ∃ r, r ∈ rs ∧ innerOf rs k = some r ∧ ws.getD k 0 = (r.1 : Int) + 1 := by
  have ht : Top (ws.getD k 0) rs [] k := by
    by_cases e : k = l.length
    · subst e
      have := h.next
      rw [h.zer _ (Nat.le_refl _)]
      exact this
    · exact h.top k (by omega)
  obtain ⟨h1, h2, -⟩ := inner_from k rs none
  rcases h1 with h1 | ⟨r, hr, h1, c1, c2⟩
  · refine .inl ⟨h1, ?_⟩
    rcases ht with ⟨t1, -⟩ | ⟨o, -, t2, -⟩
    · exact t1
    · rcases t2 with ⟨c, a1, a2, a3⟩ | ⟨a1, -⟩
      · obtain ⟨q, b1, -⟩ := h2 _ a1 a2 a3
        rw [h1] at b1; simp at b1
      · simp at a1
  · refine .inr ⟨r, hr, h1, ?_⟩
    have hc : Cov rs [] k r.1 := .inl ⟨r.2, hr, c1, c2⟩
    rcases ht with ⟨-, t1⟩ | ⟨o, t1, t2, t3⟩
    · exact absurd hc (t1 _)
    · have := t3 _ hc
      rcases t2 with ⟨c, a1, a2, a3⟩ | ⟨a1, -⟩
      · obtain ⟨q, b1, b2⟩ := h2 _ a1 a2 a3
        have e := h1.symm.trans b1
        cases e
        dsimp only at b2
        rw [t1]; omega
      · simp at a1

/-- The same innermost region, in the document's way and in the program's. -/
theorem NI.same {l : List In} {rs : List (Nat × Nat)} {ws : List Int} (h : NI l l.length [] rs ws) {k t : Nat} (hk : k ≤ l.length) (ht : t ≤ l.length) : innerOf rs k = innerOf rs t ↔ ws.getD t 0 = ws.getD k 0 := by
  rcases h.inner hk with ⟨a1, a2⟩ | ⟨r, a0, a1, a2⟩ <;> rcases h.inner ht with ⟨b1, b2⟩ | ⟨q, b0, b1, b2⟩ <;> rw [a1, a2, b1, b2]
  · simp
  · simp; omega
  · simp; omega
  · constructor
    · intro e; cases e; rfl
    · intro e; rw [h.un r a0 q b0 (by omega)]

/-- The document's look at a jump. -/
def docJump (l : List In) (rs : List (Nat × Nat)) (k : Nat) (x : In) : Int :=
  if x.op ≠ 11 ∧ x.op ≠ 12 then 0
  else if x.a ≤ k ∨ (l.length : Int) < x.a ∨ innerOf rs k ≠ innerOf rs x.a.toNat then 7 else 0

theorem doc_jump {l : List In} {rs : List (Nat × Nat)} {ws : List Int} (h : NI l l.length [] rs ws) {k : Nat} (hk : k < l.length) (x : In) : docJump l rs k x = jumpErr ws k x := by
  unfold docJump jumpErr
  split
  · rfl
  rw [h.len]
  by_cases c : x.a ≤ k ∨ (l.length : Int) < x.a
  · rw [if_pos (by rcases c with c | c; exact .inl c; exact .inr (.inl c)), if_pos (by rcases c with c | c; exact .inl c; exact .inr (.inl (by omega)))]
  · have hs := h.same (k := k) (t := x.a.toNat) (by omega) (by omega)
    by_cases e : innerOf rs k = innerOf rs x.a.toNat
    · rw [if_neg (by intro z; rcases z with z | z | z; exact c (.inl z); exact c (.inr z); exact z e), if_neg (by intro z; rcases z with z | z | z; exact c (.inl z); omega; exact z (hs.1 e))]
    · rw [if_pos (.inr (.inr e)), if_pos (.inr (.inr fun z => e (hs.2 z)))]

theorem scan_congr {f g : Nat → In → Int} : ∀ (l : List In) (k : Nat), (∀ j, j < l.length → f (k + j) (l.getD j in0) = g (k + j) (l.getD j in0)) → scan f l k = scan g l k
  | [], _, _ => rfl
  | x :: r, k, h => by
    have h0 := h 0 (by simp)
    simp at h0
    have ih := scan_congr (f := f) (g := g) r (k + 1) fun j hj => by
      have := h (j + 1) (by simpa using hj)
      rw [show k + (j + 1) = k + 1 + j by omega] at this
      exact this
    rw [scan, scan, h0, ih]

/-- What is open at the end, the outermost first. -/
def firstOpen (l : List In) : List Nat → Option (Int × Nat)
  | [] => none
  | o :: _ => some (if (l.getD o in0).op = 13 then 9 else 10, o)

theorem doc_unclosed {l : List In} {rs : List (Nat × Nat)} {ws : List Int} : ∀ {os : List Nat}, NI l l.length os rs ws → scan (unclosedErr os) l 0 = firstOpen l os := by
  intro os h
  have aux : ∀ (n j : Nat), l.length - j = n → j ≤ l.length → (∀ o ∈ os, j ≤ o) → scan (unclosedErr os) (l.drop j) j = firstOpen l os := by
    intro n
    induction n with
    | zero =>
      intro j hn hj ho
      have : j = l.length := by omega
      subst this
      rw [List.drop_length]
      cases os with
      | nil => rfl
      | cons o os => have := ho o (by simp); have := h.lo o (by simp); omega
    | succ n ih =>
      intro j hn hj ho
      have hlt : j < l.length := by omega
      rw [scan_at _ hlt]
      by_cases c : j ∈ os
      · have : unclosedErr os j (l.getD j in0) = if (l.getD j in0).op = 13 then 9 else 10 := by unfold unclosedErr; rw [if_pos c]
        rw [this, if_pos (by split <;> decide)]
        cases os with
        | nil => simp at c
        | cons o os =>
          have h1 := ho o (by simp)
          have : j = o := by
            rcases List.mem_cons.1 c with c | c
            · exact c
            · have := (List.pairwise_cons.1 h.asc).1 j c; omega
          rw [this]; rfl
      · have : unclosedErr os j (l.getD j in0) = 0 := by unfold unclosedErr; rw [if_neg c]
        rw [this, if_neg (by simp)]
        exact ih (j + 1) (by omega) (by omega) fun o hm => by
          have := ho o hm
          have : j ≠ o := fun e => c (e ▸ hm)
          omega
  have := aux l.length 0 rfl (Nat.zero_le _) (fun o _ => Nat.zero_le o)
  simpa using this

/-- What the document says of an image. -/
def docI (l : List In) : Int × Int :=
  if 2000 < l.length then (2, 0) else
  match scan (fun _ x => formErr x) l 0 with
  | some (c, k) => (c, k)
  | none =>
    match docNest l l 0 [] [] with
    | .inl (c, k) => (c, k)
    | .inr (o :: _, _) => (if (l.getD o in0).op = 13 then 9 else 10, o)
    | .inr ([], rs) =>
        match scan (docJump l rs) l 0 with
        | some (c, k) => (c, k)
        | none =>
          match stackScan l 0 M0 with
          | .inl (c, k) => (c, k)
          | .inr M => if (M l.length).getD 0 ≠ 0 then (8, l.length) else (0, 0)

theorem doc_check (l : List In) : docI l = checkI l := by
  unfold docI checkI
  split
  · rfl
  rcases scan (fun _ x => formErr x) l 0 with _ | ⟨c, k⟩
  · have := doc_scan (l := l) l.length 0 [] [] _ rfl (Nat.zero_le _) (NI.start l)
    rw [List.drop_zero] at this
    rcases this with ⟨e, h1, h2⟩ | ⟨os, rs, ws, h1, h2, h⟩
    · rw [h1, h2]
    · rw [h1, h2]
      dsimp only
      rw [doc_unclosed h]
      cases os with
      | cons o os => rfl
      | nil =>
        dsimp only [firstOpen]
        rw [scan_congr (f := docJump l rs) (g := jumpErr ws) l 0 fun j hj => by rw [Nat.zero_add]; exact doc_jump h hj _]
        rcases scan (jumpErr ws) l 0 with _ | ⟨c, k⟩ <;> rfl
  · rfl
end Go.Proofs.YtcmoehednkaehadDoor
