import Derived.Test.YtcmoehednkaehadDoorPure
namespace Go.Proofs.YtcmoehednkaehadDoor
open Go.ChangeShapes Go.WideShapes Go.ChangeAt Go.RowKit


/-- The regions of an image: what is open ahead of each instruction, and what closes what. -/
structure Nst (l : List In) (os : Nat → List Nat) (cl : Nat → Nat) : Prop where
  zero : os 0 = []
  fin : os l.length = []
  push : ∀ k, k < l.length → ((l.getD k in0).op = 13 ∨ (l.getD k in0).op = 16) → os (k + 1) = os k ++ [k]
  fresh : ∀ k, k < l.length → (l.getD k in0).op = 13 → ∀ o ∈ os k, (l.getD o in0).op = 13 → (l.getD o in0).a ≠ (l.getD k in0).a
  again : ∀ k, k < l.length → (l.getD k in0).op = 14 → ∃ o, os k = os (k + 1) ++ [o] ∧ (l.getD o in0).op = 13 ∧ (l.getD o in0).a = (l.getD k in0).a ∧ (l.getD k in0).b = (o : Int) + 1 ∧ cl o = k
  unlock : ∀ k, k < l.length → (l.getD k in0).op = 17 → ∃ o, os k = os (k + 1) ++ [o] ∧ (l.getD o in0).op = 16 ∧ cl o = k
  same : ∀ k, k < l.length → (l.getD k in0).op ≠ 13 → (l.getD k in0).op ≠ 14 → (l.getD k in0).op ≠ 16 → (l.getD k in0).op ≠ 17 → os (k + 1) = os k
  jump : ∀ k, k < l.length → ((l.getD k in0).op = 11 ∨ (l.getD k in0).op = 12) → os (l.getD k in0).a.toNat = os k

/-- What lies beneath an open region is what was open when it began. -/
theorem Nst.prefix {l : List In} {os : Nat → List Nat} {cl : Nat → Nat} (h : Nst l os cl) : ∀ k, k ≤ l.length → ∀ p o, (p ++ [o]) <+: os k → os o = p ∧ o < k ∧ ((l.getD o in0).op = 13 ∨ (l.getD o in0).op = 16)
  | 0, _, p, o, hp => by
    rw [h.zero] at hp
    have := List.prefix_nil.1 hp
    simp at this
  | k + 1, hk, p, o, hp => by
    have ih := h.prefix k (by omega) p o
    have old : (p ++ [o]) <+: os k → os o = p ∧ o < k + 1 ∧ ((l.getD o in0).op = 13 ∨ (l.getD o in0).op = 16) := fun e => by
      obtain ⟨h1, h2, h3⟩ := ih e
      exact ⟨h1, by omega, h3⟩
    by_cases h13 : (l.getD k in0).op = 13 ∨ (l.getD k in0).op = 16
    · rw [h.push k (by omega) h13] at hp
      rcases List.prefix_concat_iff.1 hp with e | e
      · have := List.append_inj' e rfl
        obtain ⟨e1, e2⟩ := this
        simp at e2
        subst e2 e1
        exact ⟨rfl, by omega, h13⟩
      · exact old e
    by_cases h14 : (l.getD k in0).op = 14
    · obtain ⟨q, hq, -⟩ := h.again k (by omega) h14
      exact old (hp.trans ⟨[q], hq.symm⟩)
    by_cases h17 : (l.getD k in0).op = 17
    · obtain ⟨q, hq, -⟩ := h.unlock k (by omega) h17
      exact old (hp.trans ⟨[q], hq.symm⟩)
    rw [h.same k (by omega) (fun e => h13 (.inl e)) h14 (fun e => h13 (.inr e)) h17] at hp
    exact old hp

def sumI (f : Nat → Int) : List Nat → Int
  | [] => 0
  | o :: r => f o + sumI f r
theorem sumI_append (f : Nat → Int) : ∀ (xs ys : List Nat), sumI f (xs ++ ys) = sumI f xs + sumI f ys
  | [], ys => by simp [sumI]
  | x :: xs, ys => by
    show f x + sumI f (xs ++ ys) = f x + sumI f xs + sumI f ys
    rw [sumI_append f xs ys]; omega
theorem sumI_last (f : Nat → Int) (xs : List Nat) (o : Nat) : sumI f (xs ++ [o]) = sumI f xs + f o := by
  rw [sumI_append]; simp [sumI]
theorem sumI_le {f g : Nat → Int} : ∀ (xs : List Nat), (∀ o ∈ xs, f o ≤ g o) → sumI f xs ≤ sumI g xs
  | [], _ => Int.le_refl _
  | x :: xs, h => by
    have h1 := h x (by simp)
    have h2 := sumI_le xs (fun o ho => h o (by simp [ho]))
    show f x + sumI f xs ≤ g x + sumI g xs
    omega
theorem sumI_eq {f g : Nat → Int} (xs : List Nat) (h : ∀ o ∈ xs, f o = g o) : sumI f xs = sumI g xs :=
  Int.le_antisymm (sumI_le xs fun o ho => Int.le_of_eq (h o ho)) (sumI_le xs fun o ho => Int.le_of_eq (h o ho).symm)

/-- What is left when the rest of a region is done: as often again as its counter says, and what lies behind it. -/
def tailI (l : List In) (R : Nat → Int) (cl : Nat → Nat) (cs : List Int) (o : Nat) : Int := R (cl o + 1) + if (l.getD o in0).op = 13 then cs.getD (l.getD o in0).a.toNat 0 * (R (o + 1) + 2) + 1 else 0

def phi (l : List In) (R : Nat → Int) (cl : Nat → Nat) (os : Nat → List Nat) (s : MS) : Int := R s.pc + sumI (tailI l R cl s.cs) (os s.pc)

/-- What is left at least from an instruction on. -/
def ruleI (l : List In) (R : Nat → Int) (cl : Nat → Nat) (k : Nat) : Int :=
  if (l.getD k in0).op = 14 then 0 else if (l.getD k in0).op = 17 then 1
  else if (l.getD k in0).op = 11 then 2 + R (l.getD k in0).a.toNat
  else if (l.getD k in0).op = 12 then max (2 + R (l.getD k in0).a.toNat) (1 + R (k + 1))
  else if (l.getD k in0).op = 13 then 1 + (((l.getD k in0).b + 1) * R (k + 1) + (l.getD k in0).b * 2 + 1) + R (cl k + 1)
  else if (l.getD k in0).op = 16 then 1 + R (k + 1) + R (cl k + 1)
  else costI (l.getD k in0) false + R (k + 1)

theorem tail_set {l : List In} {R : Nat → Int} {cl : Nat → Nat} {cs : List Int} {i : Nat} {v : Int} {o : Nat} (h : (l.getD o in0).op = 13 → (l.getD o in0).a.toNat ≠ i) : tailI l R cl (cs.set i v) o = tailI l R cl cs o := by
  unfold tailI
  split
  · rename_i e
    rw [getD_set, if_neg (fun q => h e q.1.symm)]
  · rfl

section
variable {l : List In} {os : Nat → List Nat} {cl : Nat → Nat} {R : Nat → Int}

theorem mdo_cs_else {ins : List Int} {x : In} {s : MS} (h1 : x.op ≠ 13) (h2 : x.op ≠ 14) (h3 : x.op ≠ 15) : (mdo ins x s).cs = s.cs := by
  show (if x.op = 13 then _ else if x.op = 14 then _ else if x.op = 15 then _ else s.cs) = s.cs
  rw [if_neg h1, if_neg h2, if_neg h3]

theorem over_else {x : In} {s : MS} (h1 : x.op ≠ 11) (h2 : x.op ≠ 12) (h3 : x.op ≠ 14) : overI x s = false := by
  unfold overI; rw [if_neg h1, if_neg h2, if_neg h3]


theorem Nst.mem {k o : Nat} (hn : Nst l os cl) (hk : k ≤ l.length) (ho : o ∈ os k) : o < k := by
  obtain ⟨p, r, e⟩ := List.append_of_mem ho
  exact (hn.prefix k hk p o ⟨r, by rw [e]; simp⟩).2.1

theorem a_ne {x y : In} (hx : formErr x = 0) (hy : formErr y = 0) (h : x.a ≠ y.a) : x.a.toNat ≠ y.a.toNat := by
  have h1 := (form_a hx).1
  have h2 := (form_a hy).1
  omega

/-- A close of a loop: it is as if it had just been begun there. -/
theorem Nst.loop {k o : Nat} (hn : Nst l os cl) (hf : ∀ k, k < l.length → formErr (l.getD k in0) = 0) (hk : k < l.length) (e1 : os k = os (k + 1) ++ [o]) (e2 : (l.getD o in0).op = 13) : os (o + 1) = os (k + 1) ++ [o] ∧ o < k ∧ ∀ p ∈ os (k + 1), (l.getD p in0).op = 13 → (l.getD p in0).a.toNat ≠ (l.getD o in0).a.toNat := by
  obtain ⟨h1, h2, h3⟩ := hn.prefix k (by omega) (os (k + 1)) o (by rw [e1]; exact List.prefix_refl _)
  refine ⟨by rw [hn.push o (by omega) (.inl e2), h1], h2, fun p hp hp13 => ?_⟩
  rw [← h1] at hp
  have := hn.mem (by omega) hp
  exact a_ne (hf p (by omega)) (hf o (by omega)) (hn.fresh o (by omega) e2 p hp hp13)

theorem step14 (hn : Nst l os cl) (hf : ∀ k, k < l.length → formErr (l.getD k in0) = 0) (ins : List Int) (s : MS) (hcs : s.cs.length = 8) (hlow : ∀ j, 0 ≤ s.cs.getD j 0) {k : Nat} (hk : s.pc = k) (hp : k < l.length) (h14 : (l.getD k in0).op = 14) :
    phi l R cl os (mdo ins (l.getD k in0) s) + costI (l.getD k in0) (overI (l.getD k in0) s) + R k = phi l R cl os s := by
  obtain ⟨o, e1, e2, e3, e4, e5⟩ := hn.again k hp h14
  obtain ⟨q1, q2, q3⟩ := hn.loop hf hp e1 e2
  have hfk := hf k hp
  obtain ⟨fa, f1, -⟩ := form_a hfk
  have ha := f1 (.inr (.inr (.inr (.inl h14))))
  rw [e3] at q3
  have hov : overI (l.getD k in0) s = decide (0 < s.cs.getD (l.getD k in0).a.toNat 0) := by
    unfold overI; rw [if_neg (by omega), if_neg (by omega), if_pos h14]
  have hmc : (mdo ins (l.getD k in0) s).cs = s.cs.set (l.getD k in0).a.toNat (if 0 < s.cs.getD (l.getD k in0).a.toNat 0 then s.cs.getD (l.getD k in0).a.toNat 0 - 1 else 0) := by
    show (if _ then _ else if _ then _ else _) = _
    rw [if_neg (by omega), if_pos h14]
  have hsum : ∀ v, sumI (tailI l R cl (s.cs.set (l.getD k in0).a.toNat v)) (os (k + 1)) = sumI (tailI l R cl s.cs) (os (k + 1)) := fun v => sumI_eq _ fun p hp => tail_set (fun h => q3 p hp h)
  have ht : tailI l R cl s.cs o = R (k + 1) + (s.cs.getD (l.getD k in0).a.toNat 0 * (R (o + 1) + 2) + 1) := by
    unfold tailI; rw [e5, if_pos e2, e3]
  have hpc : (mdo ins (l.getD k in0) s).pc = nextI (l.getD k in0) s := rfl
  unfold phi
  rw [hk, e1, sumI_last, ht, hmc, hpc]
  have hl0 := hlow (l.getD k in0).a.toNat
  by_cases hc : 0 < s.cs.getD (l.getD k in0).a.toNat 0
  · have hnx : nextI (l.getD k in0) s = o + 1 := by
      unfold nextI; rw [hov, if_pos (by simpa using hc), if_pos h14, e4]; omega
    have hco : costI (l.getD k in0) (overI (l.getD k in0) s) = 2 := by
      unfold costI; rw [hov, if_neg (by omega), if_pos ⟨.inr h14, by simpa using hc⟩]
    have ht' : tailI l R cl (s.cs.set (l.getD k in0).a.toNat (s.cs.getD (l.getD k in0).a.toNat 0 - 1)) o = R (k + 1) + ((s.cs.getD (l.getD k in0).a.toNat 0 - 1) * (R (o + 1) + 2) + 1) := by
      unfold tailI; rw [e5, if_pos e2, e3, getD_set, if_pos ⟨rfl, by omega⟩]
    rw [hnx, hco, if_pos hc, q1, sumI_last, hsum, ht', Int.sub_mul]
    omega
  · have hc0 : s.cs.getD (l.getD k in0).a.toNat 0 = 0 := by omega
    have hnx : nextI (l.getD k in0) s = k + 1 := by
      unfold nextI; rw [hov, if_neg (by simpa using hc), hk]
    have hco : costI (l.getD k in0) (overI (l.getD k in0) s) = 1 := by
      unfold costI; rw [hov, if_neg (by omega), if_neg (fun e => hc (by simpa using e.2)), h14]; rfl
    rw [hnx, hco, hsum, hc0]
    omega

theorem step13 (hn : Nst l os cl) (hf : ∀ k, k < l.length → formErr (l.getD k in0) = 0) (ins : List Int) (s : MS) (hcs : s.cs.length = 8) {k : Nat} (hk : s.pc = k) (hp : k < l.length) (h13 : (l.getD k in0).op = 13) :
    phi l R cl os (mdo ins (l.getD k in0) s) + costI (l.getD k in0) (overI (l.getD k in0) s) + R k = phi l R cl os s + ruleI l R cl k := by
  have hfk := hf k hp
  obtain ⟨fa, f1, -, -, f13, -⟩ := form_a hfk
  have ha := f1 (.inr (.inr (.inl h13)))
  have hov : overI (l.getD k in0) s = false := over_else (by omega) (by omega) (by omega)
  have hmc : (mdo ins (l.getD k in0) s).cs = s.cs.set (l.getD k in0).a.toNat (l.getD k in0).b := by
    show (if _ then _ else _) = _
    rw [if_pos h13]
  have hsum : sumI (tailI l R cl (s.cs.set (l.getD k in0).a.toNat (l.getD k in0).b)) (os k) = sumI (tailI l R cl s.cs) (os k) := sumI_eq _ fun p hp' => tail_set (fun h => a_ne (hf p (by have := hn.mem (by omega) hp'; omega)) hfk (hn.fresh k hp h13 p hp' h))
  have hnx : (mdo ins (l.getD k in0) s).pc = k + 1 := by
    show nextI _ _ = _
    unfold nextI; rw [hov, if_neg (by simp), hk]
  have hco : costI (l.getD k in0) false = 1 := by
    unfold costI; rw [if_neg (by omega), if_neg (by simp), h13]; rfl
  have ht : tailI l R cl (s.cs.set (l.getD k in0).a.toNat (l.getD k in0).b) k = R (cl k + 1) + ((l.getD k in0).b * (R (k + 1) + 2) + 1) := by
    unfold tailI; rw [if_pos h13, getD_set, if_pos ⟨rfl, by omega⟩]
  have hr : ruleI l R cl k = 1 + (((l.getD k in0).b + 1) * R (k + 1) + (l.getD k in0).b * 2 + 1) + R (cl k + 1) := by
    unfold ruleI; rw [if_neg (by omega), if_neg (by omega), if_neg (by omega), if_neg (by omega), if_pos h13]
  unfold phi
  rw [hk, hmc, hnx, hov, hco, hn.push k hp (.inl h13), sumI_last, hsum, ht, hr, Int.add_mul, Int.mul_add]
  omega

theorem step16 (hn : Nst l os cl) (ins : List Int) (s : MS) {k : Nat} (hk : s.pc = k) (hp : k < l.length) (h16 : (l.getD k in0).op = 16) :
    phi l R cl os (mdo ins (l.getD k in0) s) + costI (l.getD k in0) (overI (l.getD k in0) s) + R k = phi l R cl os s + ruleI l R cl k := by
  have hov : overI (l.getD k in0) s = false := over_else (by omega) (by omega) (by omega)
  have hmc := mdo_cs_else (ins := ins) (x := l.getD k in0) (s := s) (by omega) (by omega) (by omega)
  have hnx : (mdo ins (l.getD k in0) s).pc = k + 1 := by
    show nextI _ _ = _
    unfold nextI; rw [hov, if_neg (by simp), hk]
  have hco : costI (l.getD k in0) false = 1 := by
    unfold costI; rw [if_neg (by omega), if_neg (by simp), h16]; rfl
  have ht : tailI l R cl s.cs k = R (cl k + 1) := by
    unfold tailI; rw [if_neg (by omega), Int.add_zero]
  have hr : ruleI l R cl k = 1 + R (k + 1) + R (cl k + 1) := by
    unfold ruleI; rw [if_neg (by omega), if_neg (by omega), if_neg (by omega), if_neg (by omega), if_neg (by omega), if_pos h16]
  unfold phi
  rw [hk, hmc, hnx, hov, hco, hn.push k hp (.inr h16), sumI_last, ht, hr]
  omega

theorem step17 (hn : Nst l os cl) (ins : List Int) (s : MS) {k : Nat} (hk : s.pc = k) (hp : k < l.length) (h17 : (l.getD k in0).op = 17) :
    phi l R cl os (mdo ins (l.getD k in0) s) + costI (l.getD k in0) (overI (l.getD k in0) s) + R k = phi l R cl os s + ruleI l R cl k := by
  obtain ⟨o, e1, e2, e5⟩ := hn.unlock k hp h17
  have hov : overI (l.getD k in0) s = false := over_else (by omega) (by omega) (by omega)
  have hmc := mdo_cs_else (ins := ins) (x := l.getD k in0) (s := s) (by omega) (by omega) (by omega)
  have hnx : (mdo ins (l.getD k in0) s).pc = k + 1 := by
    show nextI _ _ = _
    unfold nextI; rw [hov, if_neg (by simp), hk]
  have hco : costI (l.getD k in0) false = 1 := by
    unfold costI; rw [if_neg (by omega), if_neg (by simp), h17]; rfl
  have ht : tailI l R cl s.cs o = R (k + 1) := by
    unfold tailI; rw [if_neg (by omega), Int.add_zero, e5]
  have hr : ruleI l R cl k = 1 := by
    unfold ruleI; rw [if_neg (by omega), if_pos h17]
  unfold phi
  rw [hk, hmc, hnx, hov, hco, e1, sumI_last, ht, hr]
  omega

theorem step11 (hn : Nst l os cl) (ins : List Int) (s : MS) {k : Nat} (hk : s.pc = k) (hp : k < l.length) (h11 : (l.getD k in0).op = 11) :
    phi l R cl os (mdo ins (l.getD k in0) s) + costI (l.getD k in0) (overI (l.getD k in0) s) + R k = phi l R cl os s + ruleI l R cl k := by
  have hov : overI (l.getD k in0) s = true := by unfold overI; rw [if_pos h11]
  have hmc := mdo_cs_else (ins := ins) (x := l.getD k in0) (s := s) (by omega) (by omega) (by omega)
  have hnx : (mdo ins (l.getD k in0) s).pc = (l.getD k in0).a.toNat := by
    show nextI _ _ = _
    unfold nextI; rw [hov, if_pos rfl, if_neg (by omega)]
  have hco : costI (l.getD k in0) true = 2 := by
    unfold costI; rw [if_neg (by omega), if_neg (by omega), h11]; rfl
  have hr : ruleI l R cl k = 2 + R (l.getD k in0).a.toNat := by
    unfold ruleI; rw [if_neg (by omega), if_neg (by omega), if_pos h11]
  unfold phi
  rw [hk, hmc, hnx, hov, hco, hn.jump k hp (.inl h11), hr]
  omega

theorem step12 (hn : Nst l os cl) (ins : List Int) (s : MS) {k : Nat} (hk : s.pc = k) (hp : k < l.length) (h12 : (l.getD k in0).op = 12) :
    phi l R cl os (mdo ins (l.getD k in0) s) + costI (l.getD k in0) (overI (l.getD k in0) s) + R k ≤ phi l R cl os s + ruleI l R cl k := by
  have hmc := mdo_cs_else (ins := ins) (x := l.getD k in0) (s := s) (by omega) (by omega) (by omega)
  have hr : ruleI l R cl k = max (2 + R (l.getD k in0).a.toNat) (1 + R (k + 1)) := by
    unfold ruleI; rw [if_neg (by omega), if_neg (by omega), if_neg (by omega), if_pos h12]
  have hpc : (mdo ins (l.getD k in0) s).pc = nextI (l.getD k in0) s := rfl
  unfold phi
  rw [hk, hmc, hpc, hr]
  cases hov : overI (l.getD k in0) s with
  | true =>
    have hnx : nextI (l.getD k in0) s = (l.getD k in0).a.toNat := by
      unfold nextI; rw [hov, if_pos rfl, if_neg (by omega)]
    have hco : costI (l.getD k in0) true = 2 := by
      unfold costI; rw [if_neg (by omega), if_pos ⟨.inl h12, rfl⟩]
    rw [hnx, hco, hn.jump k hp (.inr h12)]
    omega
  | false =>
    have hnx : nextI (l.getD k in0) s = k + 1 := by
      unfold nextI; rw [hov, if_neg (by simp), hk]
    have hco : costI (l.getD k in0) false = 1 := by
      unfold costI; rw [if_neg (by omega), if_neg (by simp), h12]; rfl
    rw [hnx, hco, hn.same k hp (by omega) (by omega) (by omega) (by omega)]
    omega

theorem step15 (hn : Nst l os cl) (h0 : ∀ k, 0 ≤ R k) (ins : List Int) (s : MS) (hlow : ∀ j, 0 ≤ s.cs.getD j 0) {k : Nat} (hk : s.pc = k) (hp : k < l.length) (h15 : (l.getD k in0).op = 15) :
    phi l R cl os (mdo ins (l.getD k in0) s) + costI (l.getD k in0) (overI (l.getD k in0) s) + R k ≤ phi l R cl os s + ruleI l R cl k := by
  have hov : overI (l.getD k in0) s = false := over_else (by omega) (by omega) (by omega)
  have hmc : (mdo ins (l.getD k in0) s).cs = s.cs.set (l.getD k in0).a.toNat 0 := by
    show (if _ then _ else if _ then _ else if _ then _ else _) = _
    rw [if_neg (by omega), if_neg (by omega), if_pos h15]
  have hnx : (mdo ins (l.getD k in0) s).pc = k + 1 := by
    show nextI _ _ = _
    unfold nextI; rw [hov, if_neg (by simp), hk]
  have hr : ruleI l R cl k = costI (l.getD k in0) false + R (k + 1) := by
    unfold ruleI; rw [if_neg (by omega), if_neg (by omega), if_neg (by omega), if_neg (by omega), if_neg (by omega), if_neg (by omega)]
  have hsum : sumI (tailI l R cl (s.cs.set (l.getD k in0).a.toNat 0)) (os k) ≤ sumI (tailI l R cl s.cs) (os k) := sumI_le _ fun o _ => by
    unfold tailI
    split
    · rw [getD_set]
      split
      · have := Int.mul_nonneg (hlow (l.getD o in0).a.toNat) (show 0 ≤ R (o + 1) + 2 by have := h0 (o + 1); omega)
        omega
      · omega
    · omega
  unfold phi
  rw [hk, hmc, hnx, hov, hn.same k hp (by omega) (by omega) (by omega) (by omega), hr]
  omega

theorem stepElse (hn : Nst l os cl) (ins : List Int) (s : MS) {k : Nat} (hk : s.pc = k) (hp : k < l.length) (h11 : (l.getD k in0).op ≠ 11) (h12 : (l.getD k in0).op ≠ 12) (h13 : (l.getD k in0).op ≠ 13) (h14 : (l.getD k in0).op ≠ 14) (h15 : (l.getD k in0).op ≠ 15) (h16 : (l.getD k in0).op ≠ 16) (h17 : (l.getD k in0).op ≠ 17) :
    phi l R cl os (mdo ins (l.getD k in0) s) + costI (l.getD k in0) (overI (l.getD k in0) s) + R k = phi l R cl os s + ruleI l R cl k := by
  have hov : overI (l.getD k in0) s = false := over_else h11 h12 h14
  have hmc := mdo_cs_else (ins := ins) (x := l.getD k in0) (s := s) h13 h14 h15
  have hnx : (mdo ins (l.getD k in0) s).pc = k + 1 := by
    show nextI _ _ = _
    unfold nextI; rw [hov, if_neg (by simp), hk]
  have hr : ruleI l R cl k = costI (l.getD k in0) false + R (k + 1) := by
    unfold ruleI; rw [if_neg h14, if_neg h17, if_neg h11, if_neg h12, if_neg h13, if_neg h16]
  unfold phi
  rw [hk, hmc, hnx, hov, hn.same k hp h13 h14 h16 h17, hr]
  omega

/-- One instruction: what is left is less by its ticks at least; by just so many where nothing branches. -/
theorem phi_step (hn : Nst l os cl) (hf : ∀ k, k < l.length → formErr (l.getD k in0) = 0) (h0 : ∀ k, 0 ≤ R k) (ins : List Int) (s : MS) (hcs : s.cs.length = 8) (hlow : ∀ j, 0 ≤ s.cs.getD j 0) (hp : s.pc < l.length) :
    phi l R cl os (mdo ins (atI l s) s) + costI (atI l s) (overI (atI l s) s) + R s.pc ≤ phi l R cl os s + ruleI l R cl s.pc ∧
    ((atI l s).op ≠ 12 → (atI l s).op ≠ 15 → phi l R cl os (mdo ins (atI l s) s) + costI (atI l s) (overI (atI l s) s) + R s.pc = phi l R cl os s + ruleI l R cl s.pc) := by
  obtain ⟨k, hk⟩ : ∃ k, s.pc = k := ⟨_, rfl⟩
  have hx : atI l s = l.getD k in0 := by unfold atI; rw [hk]
  rw [hk] at hp
  rw [hx, hk]
  by_cases h14 : (l.getD k in0).op = 14
  · have h1 := step14 (R := R) hn hf ins s hcs hlow hk hp h14
    have hr : ruleI l R cl k = 0 := by unfold ruleI; rw [if_pos h14]
    rw [hr]
    exact ⟨by omega, fun _ _ => by omega⟩
  by_cases h13 : (l.getD k in0).op = 13
  · have h1 := step13 (R := R) hn hf ins s hcs hk hp h13
    exact ⟨by omega, fun _ _ => h1⟩
  by_cases h16 : (l.getD k in0).op = 16
  · have h1 := step16 (R := R) hn ins s hk hp h16
    exact ⟨by omega, fun _ _ => h1⟩
  by_cases h17 : (l.getD k in0).op = 17
  · have h1 := step17 (R := R) hn ins s hk hp h17
    exact ⟨by omega, fun _ _ => h1⟩
  by_cases h11 : (l.getD k in0).op = 11
  · have h1 := step11 (R := R) hn ins s hk hp h11
    exact ⟨by omega, fun _ _ => h1⟩
  by_cases h12 : (l.getD k in0).op = 12
  · exact ⟨step12 hn ins s hk hp h12, fun e => absurd h12 e⟩
  by_cases h15 : (l.getD k in0).op = 15
  · exact ⟨step15 hn h0 ins s hlow hk hp h15, fun _ e => absurd h15 e⟩
  have h1 := stepElse (R := R) hn ins s hk hp h11 h12 h13 h14 h15 h16 h17
  exact ⟨by omega, fun _ _ => h1⟩

/-- No run takes longer than what is left at first. -/
theorem run_bound {M : Int → Option Int} (g : GoodI l M) (hn : Nst l os cl) (h0 : ∀ k, 0 ≤ R k) (hR : ∀ k, k < l.length → ruleI l R cl k ≤ R k) (ins : List Int) : ∀ (n : Nat) (s : MS) (t : Int) {s' : MS} {t' : Int}, MI l M s → runF l ins n s t = .inr (s', t') → t' ≤ t + phi l R cl os s := by
  have last : ∀ (s : MS), s.pc = l.length → 0 ≤ phi l R cl os s := fun s hs => by
    unfold phi; rw [hs, hn.fin]; have := h0 l.length; simp [sumI]; omega
  intro n
  induction n with
  | zero =>
    intro s t s' t' hm h
    rw [runF] at h
    split at h
    · rename_i hs; cases h; have := last _ hs; omega
    · cases h
  | succ n ih =>
    intro s t s' t' hm h
    rw [runF] at h
    split at h
    · rename_i hs; cases h; have := last _ hs; omega
    · rename_i hs
      have hp : s.pc < l.length := by have := hm.pc; omega
      have h1 := ih _ _ (MI.step g hm hp ins) h
      have h2 := (phi_step hn g.form h0 ins s hm.cs (fun j => (hm.low j).1) hp).1
      have h3 := hR _ hp
      omega

/-- Where nothing branches, a run takes just so long. -/
theorem run_met {M : Int → Option Int} (g : GoodI l M) (hn : Nst l os cl) (h0 : ∀ k, 0 ≤ R k) (hR : ∀ k, k < l.length → ruleI l R cl k = R k) (hz : R l.length = 0) (h12 : ∀ k, k < l.length → (l.getD k in0).op ≠ 12 ∧ (l.getD k in0).op ≠ 15) (ins : List Int) : ∀ (n : Nat) (s : MS) (t : Int) {s' : MS} {t' : Int}, MI l M s → runF l ins n s t = .inr (s', t') → t' = t + phi l R cl os s := by
  have last : ∀ (s : MS), s.pc = l.length → phi l R cl os s = 0 := fun s hs => by
    unfold phi; rw [hs, hn.fin, hz]; simp [sumI]
  intro n
  induction n with
  | zero =>
    intro s t s' t' hm h
    rw [runF] at h
    split at h
    · rename_i hs; cases h; have := last _ hs; omega
    · cases h
  | succ n ih =>
    intro s t s' t' hm h
    rw [runF] at h
    split at h
    · rename_i hs; cases h; have := last _ hs; omega
    · rename_i hs
      have hp : s.pc < l.length := by have := hm.pc; omega
      have h1 := ih _ _ (MI.step g hm hp ins) h
      have h2 := (phi_step hn g.form h0 ins s hm.cs (fun j => (hm.low j).1) hp).2 (h12 _ hp).1 (h12 _ hp).2
      have h3 := hR _ hp
      omega
end


end Go.Proofs.YtcmoehednkaehadDoor
