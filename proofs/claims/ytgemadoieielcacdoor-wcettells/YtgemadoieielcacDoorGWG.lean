import Derived.Test.YtgemadoieielcacDoorGChkW
import Derived.Test.YtgemadoieielcacDoorGPure
namespace Go.Proofs.YtgemadoieielcacDoor
open Go.ChangeShapes Go.WideShapes Go.ChangeAt Go.RowKit

theorem Check_all (w : World) (l : List In) (iad : Option Addr) (ic : Nat) (hkk : KindsIn w) (h : InSl w l (.slice iad l.length ic)) (c k : Int) (hc : checkI l = (c, k)) : Calls Tryd.prog 38 #[.slice iad l.length ic] w fun r w' => r = .returned (.agg #[.int .i64 c, .int .i64 k]) ∧ Below w.heap.size w w' := by
  by_cases hl : l.length ≤ 2000
  · exact Check_walk w l iad ic hkk h hl c k hc
  · have e : checkI l = (2, 0) := by unfold checkI; rw [if_pos (by omega)]
    rw [e] at hc
    cases hc
    exact Check_many w l.length iad ic (by omega)

end Go.Proofs.YtgemadoieielcacDoor
namespace Go.Proofs.YtgemadoieielcacDoor
open Go.ChangeShapes Go.WideShapes Go.ChangeAt Go.RowKit


/-- The regions of an image: what is open ahead of each instruction, and what closes what. -/
structure Nst (l : List In) (os : Nat → List Nat) (cl : Nat → Nat) : Prop where
  zero : os 0 = []
  fin : os l.length = []
  push : ∀ k, k < l.length → ((l.getD k in0).op = 13 ∨ (l.getD k in0).op = 16) → os (k + 1) = os k ++ [k]
  fresh : ∀ k, k < l.length → (l.getD k in0).op = 13 → ∀ o ∈ os k, (l.getD o in0).op = 13 → (l.getD o in0).a ≠ (l.getD k in0).a
  again : ∀ k, k < l.length → (l.getD k in0).op = 14 → ∃ o, os k = os (k + 1) ++ [o] ∧ (l.getD o in0).op = 13 ∧ (l.getD o in0).a = (l.getD k in0).a ∧ (l.getD k in0).b = (o : Int) + 1 ∧ cl o = k
  unlock : ∀ k, k < l.length → (l.getD k in0).op = 17 → ∃ o, os k = os (k + 1) ++ [o] ∧ (l.getD o in0).op = 16 ∧ cl o = k
  same : ∀ k, k < l.length → (l.getD k in0).op ≠ 13 → (l.getD k in0).op ≠ 14 → (l.getD k in0).op ≠ 16 → (l.getD k in0).op ≠ 17 → os (k + 1) = os k
  jump : ∀ k, k < l.length → ((l.getD k in0).op = 11 ∨ (l.getD k in0).op = 12) → os (l.getD k in0).a.toNat = os k

/-- What lies beneath an open region is what was open when it began. -/
theorem Nst.prefix {l : List In} {os : Nat → List Nat} {cl : Nat → Nat} (h : Nst l os cl) : ∀ k, k ≤ l.length → ∀ p o, (p ++ [o]) <+: os k → os o = p ∧ o < k ∧ ((l.getD o in0).op = 13 ∨ (l.getD o in0).op = 16)
  | 0, _, p, o, hp => by
    rw [h.zero] at hp
    have := List.prefix_nil.1 hp
    simp at this
  | k + 1, hk, p, o, hp => by
    have ih := h.prefix k (by omega) p o
    have old : (p ++ [o]) <+: os k → os o = p ∧ o < k + 1 ∧ ((l.getD o in0).op = 13 ∨ (l.getD o in0).op = 16) := fun e => by
      obtain ⟨h1, h2, h3⟩ := ih e
      exact ⟨h1, by omega, h3⟩
    by_cases h13 : (l.getD k in0).op = 13 ∨ (l.getD k in0).op = 16
    · rw [h.push k (by omega) h13] at hp
      rcases List.prefix_concat_iff.1 hp with e | e
      · have := List.append_inj' e rfl
        obtain ⟨e1, e2⟩ := this
        simp at e2
        subst e2 e1
        exact ⟨rfl, by omega, h13⟩
      · exact old e
    by_cases h14 : (l.getD k in0).op = 14
    · obtain ⟨q, hq, -⟩ := h.again k (by omega) h14
      exact old (hp.trans ⟨[q], hq.symm⟩)
    by_cases h17 : (l.getD k in0).op = 17
    · obtain ⟨q, hq, -⟩ := h.unlock k (by omega) h17
      exact old (hp.trans ⟨[q], hq.symm⟩)
    rw [h.same k (by omega) (fun e => h13 (.inl e)) h14 (fun e => h13 (.inr e)) h17] at hp
    exact old hp

def sumI (f : Nat → Int) : List Nat → Int
  | [] => 0
  | o :: r => f o + sumI f r
theorem sumI_append (f : Nat → Int) : ∀ (xs ys : List Nat), sumI f (xs ++ ys) = sumI f xs + sumI f ys
  | [], ys => by simp [sumI]
  | x :: xs, ys => by
    show f x + sumI f (xs ++ ys) = f x + sumI f xs + sumI f ys
    rw [sumI_append f xs ys]; omega
theorem sumI_last (f : Nat → Int) (xs : List Nat) (o : Nat) : sumI f (xs ++ [o]) = sumI f xs + f o := by
  rw [sumI_append]; simp [sumI]
theorem sumI_le {f g : Nat → Int} : ∀ (xs : List Nat), (∀ o ∈ xs, f o ≤ g o) → sumI f xs ≤ sumI g xs
  | [], _ => Int.le_refl _
  | x :: xs, h => by
    have h1 := h x (by simp)
    have h2 := sumI_le xs (fun o ho => h o (by simp [ho]))
    show f x + sumI f xs ≤ g x + sumI g xs
    omega
theorem sumI_eq {f g : Nat → Int} (xs : List Nat) (h : ∀ o ∈ xs, f o = g o) : sumI f xs = sumI g xs :=
  Int.le_antisymm (sumI_le xs fun o ho => Int.le_of_eq (h o ho)) (sumI_le xs fun o ho => Int.le_of_eq (h o ho).symm)

/-- What is left when the rest of a region is done: as often again as its counter says, and what lies behind it. -/
def tailI (l : List In) (R : Nat → Int) (cl : Nat → Nat) (cs : List Int) (o : Nat) : Int := R (cl o + 1) + if (l.getD o in0).op = 13 then cs.getD (l.getD o in0).a.toNat 0 * (R (o + 1) + 2) + 1 else 0

def phi (l : List In) (R : Nat → Int) (cl : Nat → Nat) (os : Nat → List Nat) (s : MS) : Int := R s.pc + sumI (tailI l R cl s.cs) (os s.pc)

/-- What is left at least from an instruction on. -/
def ruleI (l : List In) (R : Nat → Int) (cl : Nat → Nat) (k : Nat) : Int :=
  if (l.getD k in0).op = 14 then 0 else if (l.getD k in0).op = 17 then 1
  else if (l.getD k in0).op = 11 then 2 + R (l.getD k in0).a.toNat
  else if (l.getD k in0).op = 12 then max (2 + R (l.getD k in0).a.toNat) (1 + R (k + 1))
  else if (l.getD k in0).op = 13 then 1 + (((l.getD k in0).b + 1) * R (k + 1) + (l.getD k in0).b * 2 + 1) + R (cl k + 1)
  else if (l.getD k in0).op = 16 then 1 + R (k + 1) + R (cl k + 1)
  else costI (l.getD k in0) false + R (k + 1)

theorem tail_set {l : List In} {R : Nat → Int} {cl : Nat → Nat} {cs : List Int} {i : Nat} {v : Int} {o : Nat} (h : (l.getD o in0).op = 13 → (l.getD o in0).a.toNat ≠ i) : tailI l R cl (cs.set i v) o = tailI l R cl cs o := by
  unfold tailI
  split
  · rename_i e
    rw [getD_set, if_neg (fun q => h e q.1.symm)]
  · rfl

section
variable {l : List In} {os : Nat → List Nat} {cl : Nat → Nat} {R : Nat → Int}

theorem mdo_cs_else {ins : List Int} {x : In} {s : MS} (h1 : x.op ≠ 13) (h2 : x.op ≠ 14) (h3 : x.op ≠ 15) : (mdo ins x s).cs = s.cs := by
  show (if x.op = 13 then _ else if x.op = 14 then _ else if x.op = 15 then _ else s.cs) = s.cs
  rw [if_neg h1, if_neg h2, if_neg h3]

theorem over_else {x : In} {s : MS} (h1 : x.op ≠ 11) (h2 : x.op ≠ 12) (h3 : x.op ≠ 14) : overI x s = false := by
  unfold overI; rw [if_neg h1, if_neg h2, if_neg h3]


theorem Nst.mem {k o : Nat} (hn : Nst l os cl) (hk : k ≤ l.length) (ho : o ∈ os k) : o < k := by
  obtain ⟨p, r, e⟩ := List.append_of_mem ho
  exact (hn.prefix k hk p o ⟨r, by rw [e]; simp⟩).2.1

theorem a_ne {x y : In} (hx : formErr x = 0) (hy : formErr y = 0) (h : x.a ≠ y.a) : x.a.toNat ≠ y.a.toNat := by
  have h1 := (form_a hx).1
  have h2 := (form_a hy).1
  omega

/-- A close of a loop: it is as if it had just been begun there. -/
theorem Nst.loop {k o : Nat} (hn : Nst l os cl) (hf : ∀ k, k < l.length → formErr (l.getD k in0) = 0) (hk : k < l.length) (e1 : os k = os (k + 1) ++ [o]) (e2 : (l.getD o in0).op = 13) : os (o + 1) = os (k + 1) ++ [o] ∧ o < k ∧ ∀ p ∈ os (k + 1), (l.getD p in0).op = 13 → (l.getD p in0).a.toNat ≠ (l.getD o in0).a.toNat := by
  obtain ⟨h1, h2, h3⟩ := hn.prefix k (by omega) (os (k + 1)) o (by rw [e1]; exact List.prefix_refl _)
  refine ⟨by rw [hn.push o (by omega) (.inl e2), h1], h2, fun p hp hp13 => ?_⟩
  rw [← h1] at hp
  have := hn.mem (by omega) hp
  exact a_ne (hf p (by omega)) (hf o (by omega)) (hn.fresh o (by omega) e2 p hp hp13)

theorem step14 (hn : Nst l os cl) (hf : ∀ k, k < l.length → formErr (l.getD k in0) = 0) (ins : List Int) (s : MS) (hcs : s.cs.length = 8) (hlow : ∀ j, 0 ≤ s.cs.getD j 0) {k : Nat} (hk : s.pc = k) (hp : k < l.length) (h14 : (l.getD k in0).op = 14) :
    phi l R cl os (mdo ins (l.getD k in0) s) + costI (l.getD k in0) (overI (l.getD k in0) s) + R k = phi l R cl os s := by
  obtain ⟨o, e1, e2, e3, e4, e5⟩ := hn.again k hp h14
  obtain ⟨q1, q2, q3⟩ := hn.loop hf hp e1 e2
  have hfk := hf k hp
  obtain ⟨fa, f1, -⟩ := form_a hfk
  have ha := f1 (.inr (.inr (.inr (.inl h14))))
  rw [e3] at q3
  have hov : overI (l.getD k in0) s = decide (0 < s.cs.getD (l.getD k in0).a.toNat 0) := by
    unfold overI; rw [if_neg (by omega), if_neg (by omega), if_pos h14]
  have hmc : (mdo ins (l.getD k in0) s).cs = s.cs.set (l.getD k in0).a.toNat (if 0 < s.cs.getD (l.getD k in0).a.toNat 0 then s.cs.getD (l.getD k in0).a.toNat 0 - 1 else 0) := by
    show (if _ then _ else if _ then _ else _) = _
    rw [if_neg (by omega), if_pos h14]
  have hsum : ∀ v, sumI (tailI l R cl (s.cs.set (l.getD k in0).a.toNat v)) (os (k + 1)) = sumI (tailI l R cl s.cs) (os (k + 1)) := fun v => sumI_eq _ fun p hp => tail_set (fun h => q3 p hp h)
  have ht : tailI l R cl s.cs o = R (k + 1) + (s.cs.getD (l.getD k in0).a.toNat 0 * (R (o + 1) + 2) + 1) := by
    unfold tailI; rw [e5, if_pos e2, e3]
  have hpc : (mdo ins (l.getD k in0) s).pc = nextI (l.getD k in0) s := rfl
  unfold phi
  rw [hk, e1, sumI_last, ht, hmc, hpc]
  have hl0 := hlow (l.getD k in0).a.toNat
  by_cases hc : 0 < s.cs.getD (l.getD k in0).a.toNat 0
  · have hnx : nextI (l.getD k in0) s = o + 1 := by
      unfold nextI; rw [hov, if_pos (by simpa using hc), if_pos h14, e4]; omega
    have hco : costI (l.getD k in0) (overI (l.getD k in0) s) = 2 := by
      unfold costI; rw [hov, if_neg (by omega), if_pos ⟨.inr h14, by simpa using hc⟩]
    have ht' : tailI l R cl (s.cs.set (l.getD k in0).a.toNat (s.cs.getD (l.getD k in0).a.toNat 0 - 1)) o = R (k + 1) + ((s.cs.getD (l.getD k in0).a.toNat 0 - 1) * (R (o + 1) + 2) + 1) := by
      unfold tailI; rw [e5, if_pos e2, e3, getD_set, if_pos ⟨rfl, by omega⟩]
    rw [hnx, hco, if_pos hc, q1, sumI_last, hsum, ht', Int.sub_mul]
    omega
  · have hc0 : s.cs.getD (l.getD k in0).a.toNat 0 = 0 := by omega
    have hnx : nextI (l.getD k in0) s = k + 1 := by
      unfold nextI; rw [hov, if_neg (by simpa using hc), hk]
    have hco : costI (l.getD k in0) (overI (l.getD k in0) s) = 1 := by
      unfold costI; rw [hov, if_neg (by omega), if_neg (fun e => hc (by simpa using e.2)), h14]; rfl
    rw [hnx, hco, hsum, hc0]
    omega

theorem step13 (hn : Nst l os cl) (hf : ∀ k, k < l.length → formErr (l.getD k in0) = 0) (ins : List Int) (s : MS) (hcs : s.cs.length = 8) {k : Nat} (hk : s.pc = k) (hp : k < l.length) (h13 : (l.getD k in0).op = 13) :
    phi l R cl os (mdo ins (l.getD k in0) s) + costI (l.getD k in0) (overI (l.getD k in0) s) + R k = phi l R cl os s + ruleI l R cl k := by
  have hfk := hf k hp
  obtain ⟨fa, f1, -, -, f13, -⟩ := form_a hfk
  have ha := f1 (.inr (.inr (.inl h13)))
  have hov : overI (l.getD k in0) s = false := over_else (by omega) (by omega) (by omega)
  have hmc : (mdo ins (l.getD k in0) s).cs = s.cs.set (l.getD k in0).a.toNat (l.getD k in0).b := by
    show (if _ then _ else _) = _
    rw [if_pos h13]
  have hsum : sumI (tailI l R cl (s.cs.set (l.getD k in0).a.toNat (l.getD k in0).b)) (os k) = sumI (tailI l R cl s.cs) (os k) := sumI_eq _ fun p hp' => tail_set (fun h => a_ne (hf p (by have := hn.mem (by omega) hp'; omega)) hfk (hn.fresh k hp h13 p hp' h))
  have hnx : (mdo ins (l.getD k in0) s).pc = k + 1 := by
    show nextI _ _ = _
    unfold nextI; rw [hov, if_neg (by simp), hk]
  have hco : costI (l.getD k in0) false = 1 := by
    unfold costI; rw [if_neg (by omega), if_neg (by simp), h13]; rfl
  have ht : tailI l R cl (s.cs.set (l.getD k in0).a.toNat (l.getD k in0).b) k = R (cl k + 1) + ((l.getD k in0).b * (R (k + 1) + 2) + 1) := by
    unfold tailI; rw [if_pos h13, getD_set, if_pos ⟨rfl, by omega⟩]
  have hr : ruleI l R cl k = 1 + (((l.getD k in0).b + 1) * R (k + 1) + (l.getD k in0).b * 2 + 1) + R (cl k + 1) := by
    unfold ruleI; rw [if_neg (by omega), if_neg (by omega), if_neg (by omega), if_neg (by omega), if_pos h13]
  unfold phi
  rw [hk, hmc, hnx, hov, hco, hn.push k hp (.inl h13), sumI_last, hsum, ht, hr, Int.add_mul, Int.mul_add]
  omega

theorem step16 (hn : Nst l os cl) (ins : List Int) (s : MS) {k : Nat} (hk : s.pc = k) (hp : k < l.length) (h16 : (l.getD k in0).op = 16) :
    phi l R cl os (mdo ins (l.getD k in0) s) + costI (l.getD k in0) (overI (l.getD k in0) s) + R k = phi l R cl os s + ruleI l R cl k := by
  have hov : overI (l.getD k in0) s = false := over_else (by omega) (by omega) (by omega)
  have hmc := mdo_cs_else (ins := ins) (x := l.getD k in0) (s := s) (by omega) (by omega) (by omega)
  have hnx : (mdo ins (l.getD k in0) s).pc = k + 1 := by
    show nextI _ _ = _
    unfold nextI; rw [hov, if_neg (by simp), hk]
  have hco : costI (l.getD k in0) false = 1 := by
    unfold costI; rw [if_neg (by omega), if_neg (by simp), h16]; rfl
  have ht : tailI l R cl s.cs k = R (cl k + 1) := by
    unfold tailI; rw [if_neg (by omega), Int.add_zero]
  have hr : ruleI l R cl k = 1 + R (k + 1) + R (cl k + 1) := by
    unfold ruleI; rw [if_neg (by omega), if_neg (by omega), if_neg (by omega), if_neg (by omega), if_neg (by omega), if_pos h16]
  unfold phi
  rw [hk, hmc, hnx, hov, hco, hn.push k hp (.inr h16), sumI_last, ht, hr]
  omega

theorem step17 (hn : Nst l os cl) (ins : List Int) (s : MS) {k : Nat} (hk : s.pc = k) (hp : k < l.length) (h17 : (l.getD k in0).op = 17) :
    phi l R cl os (mdo ins (l.getD k in0) s) + costI (l.getD k in0) (overI (l.getD k in0) s) + R k = phi l R cl os s + ruleI l R cl k := by
  obtain ⟨o, e1, e2, e5⟩ := hn.unlock k hp h17
  have hov : overI (l.getD k in0) s = false := over_else (by omega) (by omega) (by omega)
  have hmc := mdo_cs_else (ins := ins) (x := l.getD k in0) (s := s) (by omega) (by omega) (by omega)
  have hnx : (mdo ins (l.getD k in0) s).pc = k + 1 := by
    show nextI _ _ = _
    unfold nextI; rw [hov, if_neg (by simp), hk]
  have hco : costI (l.getD k in0) false = 1 := by
    unfold costI; rw [if_neg (by omega), if_neg (by simp), h17]; rfl
  have ht : tailI l R cl s.cs o = R (k + 1) := by
    unfold tailI; rw [if_neg (by omega), Int.add_zero, e5]
  have hr : ruleI l R cl k = 1 := by
    unfold ruleI; rw [if_neg (by omega), if_pos h17]
  unfold phi
  rw [hk, hmc, hnx, hov, hco, e1, sumI_last, ht, hr]
  omega

theorem step11 (hn : Nst l os cl) (ins : List Int) (s : MS) {k : Nat} (hk : s.pc = k) (hp : k < l.length) (h11 : (l.getD k in0).op = 11) :
    phi l R cl os (mdo ins (l.getD k in0) s) + costI (l.getD k in0) (overI (l.getD k in0) s) + R k = phi l R cl os s + ruleI l R cl k := by
  have hov : overI (l.getD k in0) s = true := by unfold overI; rw [if_pos h11]
  have hmc := mdo_cs_else (ins := ins) (x := l.getD k in0) (s := s) (by omega) (by omega) (by omega)
  have hnx : (mdo ins (l.getD k in0) s).pc = (l.getD k in0).a.toNat := by
    show nextI _ _ = _
    unfold nextI; rw [hov, if_pos rfl, if_neg (by omega)]
  have hco : costI (l.getD k in0) true = 2 := by
    unfold costI; rw [if_neg (by omega), if_neg (by omega), h11]; rfl
  have hr : ruleI l R cl k = 2 + R (l.getD k in0).a.toNat := by
    unfold ruleI; rw [if_neg (by omega), if_neg (by omega), if_pos h11]
  unfold phi
  rw [hk, hmc, hnx, hov, hco, hn.jump k hp (.inl h11), hr]
  omega

theorem step12 (hn : Nst l os cl) (ins : List Int) (s : MS) {k : Nat} (hk : s.pc = k) (hp : k < l.length) (h12 : (l.getD k in0).op = 12) :
    phi l R cl os (mdo ins (l.getD k in0) s) + costI (l.getD k in0) (overI (l.getD k in0) s) + R k ≤ phi l R cl os s + ruleI l R cl k := by
  have hmc := mdo_cs_else (ins := ins) (x := l.getD k in0) (s := s) (by omega) (by omega) (by omega)
  have hr : ruleI l R cl k = max (2 + R (l.getD k in0).a.toNat) (1 + R (k + 1)) := by
    unfold ruleI; rw [if_neg (by omega), if_neg (by omega), if_neg (by omega), if_pos h12]
  have hpc : (mdo ins (l.getD k in0) s).pc = nextI (l.getD k in0) s := rfl
  unfold phi
  rw [hk, hmc, hpc, hr]
  cases hov : overI (l.getD k in0) s with
  | true =>
    have hnx : nextI (l.getD k in0) s = (l.getD k in0).a.toNat := by
      unfold nextI; rw [hov, if_pos rfl, if_neg (by omega)]
    have hco : costI (l.getD k in0) true = 2 := by
      unfold costI; rw [if_neg (by omega), if_pos ⟨.inl h12, rfl⟩]
    rw [hnx, hco, hn.jump k hp (.inr h12)]
    omega
  | false =>
    have hnx : nextI (l.getD k in0) s = k + 1 := by
      unfold nextI; rw [hov, if_neg (by simp), hk]
    have hco : costI (l.getD k in0) false = 1 := by
      unfold costI; rw [if_neg (by omega), if_neg (by simp), h12]; rfl
    rw [hnx, hco, hn.same k hp (by omega) (by omega) (by omega) (by omega)]
    omega

theorem step15 (hn : Nst l os cl) (h0 : ∀ k, 0 ≤ R k) (ins : List Int) (s : MS) (hlow : ∀ j, 0 ≤ s.cs.getD j 0) {k : Nat} (hk : s.pc = k) (hp : k < l.length) (h15 : (l.getD k in0).op = 15) :
    phi l R cl os (mdo ins (l.getD k in0) s) + costI (l.getD k in0) (overI (l.getD k in0) s) + R k ≤ phi l R cl os s + ruleI l R cl k := by
  have hov : overI (l.getD k in0) s = false := over_else (by omega) (by omega) (by omega)
  have hmc : (mdo ins (l.getD k in0) s).cs = s.cs.set (l.getD k in0).a.toNat 0 := by
    show (if _ then _ else if _ then _ else if _ then _ else _) = _
    rw [if_neg (by omega), if_neg (by omega), if_pos h15]
  have hnx : (mdo ins (l.getD k in0) s).pc = k + 1 := by
    show nextI _ _ = _
    unfold nextI; rw [hov, if_neg (by simp), hk]
  have hr : ruleI l R cl k = costI (l.getD k in0) false + R (k + 1) := by
    unfold ruleI; rw [if_neg (by omega), if_neg (by omega), if_neg (by omega), if_neg (by omega), if_neg (by omega), if_neg (by omega)]
  have hsum : sumI (tailI l R cl (s.cs.set (l.getD k in0).a.toNat 0)) (os k) ≤ sumI (tailI l R cl s.cs) (os k) := sumI_le _ fun o _ => by
    unfold tailI
    split
    · rw [getD_set]
      split
      · have := Int.mul_nonneg (hlow (l.getD o in0).a.toNat) (show 0 ≤ R (o + 1) + 2 by have := h0 (o + 1); omega)
        omega
      · omega
    · omega
  unfold phi
  rw [hk, hmc, hnx, hov, hn.same k hp (by omega) (by omega) (by omega) (by omega), hr]
  omega

theorem stepElse (hn : Nst l os cl) (ins : List Int) (s : MS) {k : Nat} (hk : s.pc = k) (hp : k < l.length) (h11 : (l.getD k in0).op ≠ 11) (h12 : (l.getD k in0).op ≠ 12) (h13 : (l.getD k in0).op ≠ 13) (h14 : (l.getD k in0).op ≠ 14) (h15 : (l.getD k in0).op ≠ 15) (h16 : (l.getD k in0).op ≠ 16) (h17 : (l.getD k in0).op ≠ 17) :
    phi l R cl os (mdo ins (l.getD k in0) s) + costI (l.getD k in0) (overI (l.getD k in0) s) + R k = phi l R cl os s + ruleI l R cl k := by
  have hov : overI (l.getD k in0) s = false := over_else h11 h12 h14
  have hmc := mdo_cs_else (ins := ins) (x := l.getD k in0) (s := s) h13 h14 h15
  have hnx : (mdo ins (l.getD k in0) s).pc = k + 1 := by
    show nextI _ _ = _
    unfold nextI; rw [hov, if_neg (by simp), hk]
  have hr : ruleI l R cl k = costI (l.getD k in0) false + R (k + 1) := by
    unfold ruleI; rw [if_neg h14, if_neg h17, if_neg h11, if_neg h12, if_neg h13, if_neg h16]
  unfold phi
  rw [hk, hmc, hnx, hov, hn.same k hp h13 h14 h16 h17, hr]
  omega

/-- One instruction: what is left is less by its ticks at least; by just so many where nothing branches. -/
theorem phi_step (hn : Nst l os cl) (hf : ∀ k, k < l.length → formErr (l.getD k in0) = 0) (h0 : ∀ k, 0 ≤ R k) (ins : List Int) (s : MS) (hcs : s.cs.length = 8) (hlow : ∀ j, 0 ≤ s.cs.getD j 0) (hp : s.pc < l.length) :
    phi l R cl os (mdo ins (atI l s) s) + costI (atI l s) (overI (atI l s) s) + R s.pc ≤ phi l R cl os s + ruleI l R cl s.pc ∧
    ((atI l s).op ≠ 12 → (atI l s).op ≠ 15 → phi l R cl os (mdo ins (atI l s) s) + costI (atI l s) (overI (atI l s) s) + R s.pc = phi l R cl os s + ruleI l R cl s.pc) := by
  obtain ⟨k, hk⟩ : ∃ k, s.pc = k := ⟨_, rfl⟩
  have hx : atI l s = l.getD k in0 := by unfold atI; rw [hk]
  rw [hk] at hp
  rw [hx, hk]
  by_cases h14 : (l.getD k in0).op = 14
  · have h1 := step14 (R := R) hn hf ins s hcs hlow hk hp h14
    have hr : ruleI l R cl k = 0 := by unfold ruleI; rw [if_pos h14]
    rw [hr]
    exact ⟨by omega, fun _ _ => by omega⟩
  by_cases h13 : (l.getD k in0).op = 13
  · have h1 := step13 (R := R) hn hf ins s hcs hk hp h13
    exact ⟨by omega, fun _ _ => h1⟩
  by_cases h16 : (l.getD k in0).op = 16
  · have h1 := step16 (R := R) hn ins s hk hp h16
    exact ⟨by omega, fun _ _ => h1⟩
  by_cases h17 : (l.getD k in0).op = 17
  · have h1 := step17 (R := R) hn ins s hk hp h17
    exact ⟨by omega, fun _ _ => h1⟩
  by_cases h11 : (l.getD k in0).op = 11
  · have h1 := step11 (R := R) hn ins s hk hp h11
    exact ⟨by omega, fun _ _ => h1⟩
  by_cases h12 : (l.getD k in0).op = 12
  · exact ⟨step12 hn ins s hk hp h12, fun e => absurd h12 e⟩
  by_cases h15 : (l.getD k in0).op = 15
  · exact ⟨step15 hn h0 ins s hlow hk hp h15, fun _ e => absurd h15 e⟩
  have h1 := stepElse (R := R) hn ins s hk hp h11 h12 h13 h14 h15 h16 h17
  exact ⟨by omega, fun _ _ => h1⟩

/-- No run takes longer than what is left at first. -/
theorem run_bound {M : Int → Option Int} (g : GoodI l M) (hn : Nst l os cl) (h0 : ∀ k, 0 ≤ R k) (hR : ∀ k, k < l.length → ruleI l R cl k ≤ R k) (ins : List Int) : ∀ (n : Nat) (s : MS) (t : Int) {s' : MS} {t' : Int}, MI l M s → runF l ins n s t = .inr (s', t') → t' ≤ t + phi l R cl os s := by
  have last : ∀ (s : MS), s.pc = l.length → 0 ≤ phi l R cl os s := fun s hs => by
    unfold phi; rw [hs, hn.fin]; have := h0 l.length; simp [sumI]; omega
  intro n
  induction n with
  | zero =>
    intro s t s' t' hm h
    rw [runF] at h
    split at h
    · rename_i hs; cases h; have := last _ hs; omega
    · cases h
  | succ n ih =>
    intro s t s' t' hm h
    rw [runF] at h
    split at h
    · rename_i hs; cases h; have := last _ hs; omega
    · rename_i hs
      have hp : s.pc < l.length := by have := hm.pc; omega
      have h1 := ih _ _ (MI.step g hm hp ins) h
      have h2 := (phi_step hn g.form h0 ins s hm.cs (fun j => (hm.low j).1) hp).1
      have h3 := hR _ hp
      omega

/-- Where nothing branches, a run takes just so long. -/
theorem run_met {M : Int → Option Int} (g : GoodI l M) (hn : Nst l os cl) (h0 : ∀ k, 0 ≤ R k) (hR : ∀ k, k < l.length → ruleI l R cl k = R k) (hz : R l.length = 0) (h12 : ∀ k, k < l.length → (l.getD k in0).op ≠ 12 ∧ (l.getD k in0).op ≠ 15) (ins : List Int) : ∀ (n : Nat) (s : MS) (t : Int) {s' : MS} {t' : Int}, MI l M s → runF l ins n s t = .inr (s', t') → t' = t + phi l R cl os s := by
  have last : ∀ (s : MS), s.pc = l.length → phi l R cl os s = 0 := fun s hs => by
    unfold phi; rw [hs, hn.fin, hz]; simp [sumI]
  intro n
  induction n with
  | zero =>
    intro s t s' t' hm h
    rw [runF] at h
    split at h
    · rename_i hs; cases h; have := last _ hs; omega
    · cases h
  | succ n ih =>
    intro s t s' t' hm h
    rw [runF] at h
    split at h
    · rename_i hs; cases h; have := last _ hs; omega
    · rename_i hs
      have hp : s.pc < l.length := by have := hm.pc; omega
      have h1 := ih _ _ (MI.step g hm hp ins) h
      have h2 := (phi_step hn g.form h0 ins s hm.cs (fun j => (hm.low j).1) hp).2 (h12 _ hp).1 (h12 _ hp).2
      have h3 := hR _ hp
      omega
end


end Go.Proofs.YtgemadoieielcacDoor
namespace Go.Proofs.YtgemadoieielcacDoor
open Go.ChangeShapes Go.WideShapes Go.ChangeAt Go.RowKit

/-- What is open ahead of an instruction. -/
def osStep (x : In) (k : Nat) (os : List Nat) : List Nat := if x.op = 13 ∨ x.op = 16 then os ++ [k] else if x.op = 14 ∨ x.op = 17 then os.dropLast else os
def osAt (l : List In) : Nat → List Nat
  | 0 => []
  | k + 1 => osStep (l.getD k in0) k (osAt l k)
/-- What closes what, as far as is seen. -/
def clStep (x : In) (k : Nat) (os cs : List Nat) : List Nat := if x.op = 14 ∨ x.op = 17 then cs.set (os.getLast?.getD 0) k else cs
def clAt (l : List In) : Nat → List Nat
  | 0 => List.replicate l.length 0
  | k + 1 => clStep (l.getD k in0) k (osAt l k) (clAt l k)
def clF (l : List In) (o : Nat) : Nat := (clAt l l.length).getD o 0

theorem clAt_len (l : List In) : ∀ k, (clAt l k).length = l.length
  | 0 => by simp [clAt]
  | k + 1 => by
    show (clStep _ _ _ _).length = _
    unfold clStep
    split
    · rw [List.length_set]; exact clAt_len l k
    · exact clAt_len l k

theorem mem_drop {os : List Nat} {o : Nat} (h : o ∈ os.dropLast) : o ∈ os := (List.dropLast_sublist _).subset h

theorem osAt_asc (l : List In) : ∀ k, (osAt l k).Pairwise (· < ·) ∧ ∀ o ∈ osAt l k, o < k
  | 0 => by simp [osAt]
  | k + 1 => by
    obtain ⟨h1, h2⟩ := osAt_asc l k
    show (osStep _ _ _).Pairwise _ ∧ ∀ o ∈ osStep _ _ _, _
    unfold osStep
    split
    · refine ⟨List.pairwise_append.2 ⟨h1, by simp, fun a ha b hb => ?_⟩, fun o ho => ?_⟩
      · simp at hb; subst hb; exact h2 a ha
      · rw [List.mem_append] at ho
        rcases ho with ho | ho
        · have := h2 o ho; omega
        · simp at ho; omega
    split
    · exact ⟨h1.sublist (List.dropLast_sublist _), fun o ho => by have := h2 o (mem_drop ho); omega⟩
    · exact ⟨h1, fun o ho => by have := h2 o ho; omega⟩

theorem last_split {os : List Nat} (h : os ≠ []) : os = os.dropLast ++ [os.getLast?.getD 0] := by
  rcases ho : os.getLast? with _ | o
  · exact absurd (List.getLast?_eq_none_iff.1 ho) h
  · obtain ⟨ys, rfl⟩ := List.getLast?_eq_some_iff.1 ho
    simp

/-- What was closed is not open again. -/
theorem osAt_gone {l : List In} {o k : Nat} (ho : o < k) (h : o ∉ osAt l k) : ∀ d, o ∉ osAt l (k + d)
  | 0 => h
  | d + 1 => by
    have ih := osAt_gone ho h d
    show o ∉ osStep _ _ _
    unfold osStep
    split
    · rw [List.mem_append]; simp; exact ⟨ih, by omega⟩
    split
    · exact fun e => ih (mem_drop e)
    · exact ih

/-- What closes a region is told at the end, too. -/
theorem clAt_stays {l : List In} {o k : Nat} (ho : o < k) (h : o ∉ osAt l k) (hne : ∀ j, k ≤ j → j < l.length → ((l.getD j in0).op = 14 ∨ (l.getD j in0).op = 17) → osAt l j ≠ []) : ∀ d, k + d ≤ l.length → (clAt l (k + d)).getD o 0 = (clAt l k).getD o 0
  | 0, _ => rfl
  | d + 1, hd => by
    have ih := clAt_stays ho h hne d (by omega)
    have hg := osAt_gone ho h d
    have e0 : clAt l (k + (d + 1)) = clStep (l.getD (k + d) in0) (k + d) (osAt l (k + d)) (clAt l (k + d)) := rfl
    rw [e0]
    unfold clStep
    split
    · rename_i e
      have hm : (osAt l (k + d)).getLast?.getD 0 ≠ o := fun e2 => by
        have h3 := last_split (hne (k + d) (by omega) (by omega) e)
        rw [e2] at h3
        exact hg (by rw [h3]; simp)
      rw [List.getD_eq_getElem?_getD, List.getElem?_set_ne hm, ← List.getD_eq_getElem?_getD]
      exact ih
    · exact ih

/-- What opens a region has been closed where nothing is open. -/
theorem osAt_shut {l : List In} {o : Nat} : ∀ d j, o ∈ osAt l j → o ∉ osAt l (j + d) → ∃ k, j ≤ k ∧ k < j + d ∧ ((l.getD k in0).op = 14 ∨ (l.getD k in0).op = 17) ∧ osAt l k = osAt l (k + 1) ++ [o]
  | 0, j, h, h' => absurd h h'
  | d + 1, j, h, h' => by
    by_cases hj : o ∈ osAt l (j + 1)
    · obtain ⟨k, h1, h2, h3⟩ := osAt_shut d (j + 1) hj (by rw [show j + 1 + d = j + (d + 1) by omega]; exact h')
      exact ⟨k, by omega, by omega, h3⟩
    · refine ⟨j, Nat.le_refl _, by omega, ?_⟩
      have e : osAt l (j + 1) = osStep (l.getD j in0) j (osAt l j) := rfl
      unfold osStep at e
      split at e
      · rw [e] at hj; exact absurd (List.mem_append.2 (.inl h)) hj
      split at e
      · rename_i h1
        have hne : osAt l j ≠ [] := fun e0 => by rw [e0] at h; cases h
        have hs := last_split hne
        rw [e] at hj
        rw [hs, List.mem_append] at h
        rcases h with h | h
        · exact absurd h hj
        · refine ⟨h1, ?_⟩
          have h2 : o = (osAt l j).getLast?.getD 0 := by simpa using h
          rw [e, h2]
          exact hs
      · rw [e] at hj; exact absurd h hj

theorem docOf_step {l : List In} {j : Nat} {x : In} {os : List Nat} (h0' : (docOf l j x os).1 = 0) : (docOf l j x os).2 = osStep x j os := by
  by_cases e : x.op = 13 ∨ x.op = 16
  · have e1 : osStep x j os = os ++ [j] := by unfold osStep; rw [if_pos e]
    rw [e1]
    unfold docOf at *
    rw [if_pos e] at *
    split at h0'
    · dsimp only at h0'; split at h0' <;> simp at h0'
    · rename_i e2; rw [if_neg e2]
  by_cases e14 : x.op = 14
  · have e1 : osStep x j os = os.dropLast := by unfold osStep; rw [if_neg e, if_pos (.inl e14)]
    rw [e1]
    unfold docOf at *
    rw [if_neg e, if_pos e14] at *
    split at h0'
    · simp at h0'
    · rename_i e2; rw [if_neg e2]
  by_cases e17 : x.op = 17
  · have e1 : osStep x j os = os.dropLast := by unfold osStep; rw [if_neg e, if_pos (.inr e17)]
    rw [e1]
    unfold docOf at *
    rw [if_neg e, if_neg e14, if_pos e17] at *
    split at h0'
    · simp at h0'
    · rename_i e2; rw [if_neg e2]
  have e1 : osStep x j os = os := by unfold osStep; rw [if_neg e, if_neg (fun z => z.elim e14 e17)]
  rw [e1]
  unfold docOf
  rw [if_neg e, if_neg e14, if_neg e17]
  split
  · split <;> rfl
  · rfl

theorem docNest_all {l : List In} : ∀ (n j : Nat) (os : List Nat) (rs rs' : List (Nat × Nat)) (os' : List Nat), l.length - j = n → j ≤ l.length → docNest l (l.drop j) j os rs = .inr (os', rs') → os = osAt l j → os' = osAt l l.length ∧ ∀ k, j ≤ k → k < l.length → (docOf l k (l.getD k in0) (osAt l k)).1 = 0
  | 0, j, os, rs, rs', os', hn, hj, h, ho => by
    have : j = l.length := by omega
    subst this
    rw [List.drop_length, docNest] at h
    cases h
    exact ⟨ho, fun k h1 h2 => by omega⟩
  | n + 1, j, os, rs, rs', os', hn, hj, h, ho => by
    rw [drop_at (by omega), docNest] at h
    split at h
    · cases h
    rename_i h0
    have h0' : (docOf l j (l.getD j in0) os).1 = 0 := Classical.not_not.1 h0
    have hst : (docOf l j (l.getD j in0) os).2 = osAt l (j + 1) := by
      show _ = osStep _ _ _
      rw [← ho]
      exact docOf_step h0'
    obtain ⟨q1, q2⟩ := docNest_all n (j + 1) _ _ rs' os' (by omega) (by omega) h hst
    refine ⟨q1, fun k h1 h2 => ?_⟩
    by_cases hk : k = j
    · subst hk; rw [← ho]; exact h0'
    · exact q2 k (by omega) h2

theorem nest_ws {l : List In} : ∀ (n j : Nat) (os : List Nat) (rs : List (Nat × Nat)) (ws : List Int) (os' : List Nat) (ws' : List Int), l.length - j = n → j ≤ l.length → NI l j os rs ws → os = osAt l j → (∀ k, k < j → ws.getD k 0 = beginOf (osAt l k).getLast?) → nestScan l (l.drop j) j os ws = .inr (os', ws') → ∀ k, k < l.length → ws'.getD k 0 = beginOf (osAt l k).getLast?
  | 0, j, os, rs, ws, os', ws', hn, hj, hni, ho, hw, h => by
    have : j = l.length := by omega
    subst this
    rw [List.drop_length, nestScan] at h
    cases h
    exact hw
  | n + 1, j, os, rs, ws, os', ws', hn, hj, hni, ho, hw, h => by
    rw [nestScan_at l (by omega)] at h
    split at h
    · cases h
    rename_i h0
    have h0' : (nestOf l j (l.getD j in0) os).1 = 0 := Classical.not_not.1 h0
    have hdn := doc_nest hni.uq j (l.getD j in0)
    refine nest_ws n (j + 1) _ _ _ os' ws' (by omega) (by omega) (hni.step (by omega) h0') ?_ (fun k hk => ?_) h
    · rw [← hdn]
      rw [← hdn] at h0'
      show _ = osStep _ _ _
      rw [← ho]
      exact docOf_step h0'
    · rw [List.getD_eq_getElem?_getD, List.getElem?_set]
      by_cases e : j = k
      · subst e
        rw [if_pos rfl, if_pos (by have := hni.len; omega), ho]; rfl
      · rw [if_neg e, ← List.getD_eq_getElem?_getD]
        exact hw k (by omega)

theorem osAt_prefix (l : List In) : ∀ k p o, (p ++ [o]) <+: osAt l k → osAt l o = p
  | 0, p, o, hp => by
    have := List.prefix_nil.1 hp
    simp at this
  | k + 1, p, o, hp => by
    have ih := osAt_prefix l k p o
    have e : osAt l (k + 1) = osStep (l.getD k in0) k (osAt l k) := rfl
    rw [e] at hp
    unfold osStep at hp
    split at hp
    · rcases List.prefix_concat_iff.1 hp with e | e
      · obtain ⟨e1, e2⟩ := List.append_inj' e rfl
        simp at e2
        subst e2 e1
        rfl
      · exact ih e
    split at hp
    · exact ih (hp.trans (List.dropLast_prefix _))
    · exact ih hp

theorem osAt_eq {l : List In} {k t : Nat} (h : beginOf (osAt l t).getLast? = beginOf (osAt l k).getLast?) : osAt l t = osAt l k := by
  rcases hk : (osAt l k).getLast? with _ | o
  · rcases ht : (osAt l t).getLast? with _ | p
    · rw [List.getLast?_eq_none_iff] at hk ht; rw [hk, ht]
    · rw [hk, ht] at h; simp only [beginOf] at h; omega
  · rcases ht : (osAt l t).getLast? with _ | p
    · rw [hk, ht] at h; simp only [beginOf] at h; omega
    · rw [hk, ht] at h
      simp only [beginOf] at h
      have : p = o := by omega
      subst this
      obtain ⟨a, ha⟩ := List.getLast?_eq_some_iff.1 hk
      obtain ⟨b, hb⟩ := List.getLast?_eq_some_iff.1 ht
      have h1 := osAt_prefix l k a p (by rw [ha]; exact List.prefix_refl _)
      have h2 := osAt_prefix l t b p (by rw [hb]; exact List.prefix_refl _)
      rw [ha, hb, ← h1, ← h2]

/-- The regions of an image with which nothing is wrong. -/
theorem nst_of {l : List In} (h : docI l = (0, 0)) : Nst l (osAt l) (clF l) ∧ (∀ k, k < l.length → ((l.getD k in0).op = 13 ∨ (l.getD k in0).op = 16) → k < clF l k ∧ clF l k < l.length) ∧ ∀ k, k < l.length → ((l.getD k in0).op = 11 ∨ (l.getD k in0).op = 12) → k < (l.getD k in0).a.toNat ∧ (l.getD k in0).a.toNat ≤ l.length := by
  unfold docI at h
  by_cases hl : 2000 < l.length
  · rw [if_pos hl] at h; simp at h
  rw [if_neg hl] at h
  rcases hf : scan (fun _ x => formErr x) l 0 with _ | ⟨c, k⟩
  rotate_left 1
  · rw [hf] at h; exact absurd (congrArg Prod.fst h) (scan_bad _ l 0 hf)
  rw [hf] at h
  dsimp only at h
  rcases hn : docNest l l 0 [] [] with ⟨c, k⟩ | ⟨_ | ⟨o, os⟩, rs⟩
  · rw [hn] at h; exact absurd (congrArg Prod.fst h) (docNest_bad l l 0 [] [] hn)
  rotate_left 1
  · rw [hn] at h
    have := congrArg Prod.fst h
    dsimp only at this
    split at this <;> simp at this
  rw [hn] at h
  dsimp only at h
  rcases hj : scan (docJump l rs) l 0 with _ | ⟨c, k⟩
  rotate_left 1
  · rw [hj] at h; exact absurd (congrArg Prod.fst h) (scan_bad _ l 0 hj)
  obtain ⟨hend, hall⟩ := docNest_all (l := l) l.length 0 [] [] rs [] (by omega) (by omega) (by rw [List.drop_zero]; exact hn) rfl
  have hall' : ∀ k, k < l.length → (docOf l k (l.getD k in0) (osAt l k)).1 = 0 := fun k hk => hall k (Nat.zero_le _) hk
  have hNI := doc_scan (l := l) l.length 0 [] [] _ rfl (Nat.zero_le _) (NI.start l)
  rw [List.drop_zero] at hNI
  rcases hNI with ⟨e, -, h1⟩ | ⟨os2, rs2, ws, h2, h1, hni⟩
  · rw [hn] at h1; cases h1
  rw [hn] at h1
  cases h1
  have hws := nest_ws (l := l) l.length 0 [] [] _ _ ws (by omega) (by omega) (NI.start l) rfl (by intro k hk; omega) (by rw [List.drop_zero]; exact h2)
  have hfin : osAt l l.length = [] := hend.symm
  have hwn : ws.getD l.length 0 = beginOf (osAt l l.length).getLast? := by rw [hni.zer _ (Nat.le_refl _), hfin]; rfl
  have hnext : ∀ k, osAt l (k + 1) = osStep (l.getD k in0) k (osAt l k) := fun _ => rfl
  have hclose : ∀ k, k < l.length → ((l.getD k in0).op = 14 ∨ (l.getD k in0).op = 17) → osAt l k ≠ [] := fun k hk e e0 => by
    have := hall' k hk
    unfold docOf at this
    rw [if_neg (by omega)] at this
    rcases e with e | e
    · rw [if_pos e, if_pos (.inl e0)] at this; simp at this
    · rw [if_neg (by omega), if_pos e, if_pos (.inl e0)] at this; simp at this
  have hcl : ∀ k o, k < l.length → ((l.getD k in0).op = 14 ∨ (l.getD k in0).op = 17) → osAt l k = osAt l (k + 1) ++ [o] → clF l o = k := fun k o hk e he => by
    have hlo : o < k := (osAt_asc l k).2 o (by rw [he]; simp)
    have hgone : o ∉ osAt l (k + 1) := fun hm => by
      have hp := (osAt_asc l k).1
      rw [he, List.pairwise_append] at hp
      have := hp.2.2 o hm o (by simp)
      omega
    have hst := clAt_stays (l := l) (o := o) (k := k + 1) (by omega) hgone (fun j _ hj ej => hclose j hj ej) (l.length - (k + 1)) (by omega)
    rw [show k + 1 + (l.length - (k + 1)) = l.length by omega] at hst
    unfold clF
    rw [hst]
    show (clStep _ _ _ _).getD o 0 = k
    unfold clStep
    rw [if_pos e]
    have hlast : (osAt l k).getLast?.getD 0 = o := by rw [he]; simp
    rw [hlast, List.getD_eq_getElem?_getD, List.getElem?_set, if_pos rfl, if_pos (by rw [clAt_len]; omega)]
    rfl
  have hpush : ∀ k, k < l.length → ((l.getD k in0).op = 13 ∨ (l.getD k in0).op = 16) → osAt l (k + 1) = osAt l k ++ [k] := fun k hk e => by
    rw [hnext]; unfold osStep; rw [if_pos e]
  have hjmp : ∀ k, k < l.length → ((l.getD k in0).op = 11 ∨ (l.getD k in0).op = 12) → k < (l.getD k in0).a.toNat ∧ (l.getD k in0).a.toNat ≤ l.length ∧ osAt l (l.getD k in0).a.toNat = osAt l k := fun k hk e => by
    have hjk := scan_none _ l 0 hj k hk
    rw [Nat.zero_add, doc_jump hni hk] at hjk
    unfold jumpErr at hjk
    rw [if_neg (by omega)] at hjk
    split at hjk
    · simp at hjk
    rename_i hno
    have ha1 : ¬ (l.getD k in0).a ≤ k := fun z => hno (.inl z)
    have ha2 : ¬ (ws.length : Int) ≤ (l.getD k in0).a := fun z => hno (.inr (.inl z))
    have ha3 : ws.getD (l.getD k in0).a.toNat 0 = ws.getD k 0 := Classical.not_not.1 fun z => hno (.inr (.inr z))
    rw [hni.len] at ha2
    rw [hws k hk] at ha3
    refine ⟨by omega, by omega, osAt_eq ?_⟩
    by_cases hlt : (l.getD k in0).a.toNat < l.length
    · rw [← ha3, hws _ hlt]
    · rw [← ha3, show (l.getD k in0).a.toNat = l.length by omega, hwn]
  refine ⟨⟨rfl, hfin, hpush, fun k hk e o ho h13 ha => ?_, fun k hk e => ?_, fun k hk e => ?_, fun k hk e13 e14 e16 e17 => ?_, fun k hk e => ?_⟩, fun k hk e => ?_, fun k hk e => ⟨(hjmp k hk e).1, (hjmp k hk e).2.1⟩⟩
  · have := hall' k hk
    unfold docOf at this
    rw [if_pos (.inl e)] at this
    split at this
    · simp at this
    · rename_i hna
      refine hna ?_
      unfold amongI
      rw [List.any_eq_true]
      exact ⟨o, ho, by simp only [Bool.and_eq_true, decide_eq_true_eq]; exact ⟨h13.trans e.symm, ha⟩⟩
  · have hne := hclose k hk (.inl e)
    have hs := last_split hne
    have hd : osAt l (k + 1) = (osAt l k).dropLast := by rw [hnext]; unfold osStep; rw [if_neg (by omega), if_pos (.inl e)]
    rw [← hd] at hs
    have := hall' k hk
    unfold docOf at this
    rw [if_neg (by omega), if_pos e] at this
    split at this
    · simp at this
    rename_i hno
    refine ⟨_, hs, ?_, ?_, ?_, hcl k _ hk (.inl e) hs⟩
    · exact Classical.not_not.1 fun z => hno (.inr (.inl z))
    · exact Classical.not_not.1 fun z => hno (.inr (.inr (.inl z)))
    · exact Classical.not_not.1 fun z => hno (.inr (.inr (.inr z)))
  · have hne := hclose k hk (.inr e)
    have hs := last_split hne
    have hd : osAt l (k + 1) = (osAt l k).dropLast := by rw [hnext]; unfold osStep; rw [if_neg (by omega), if_pos (.inr e)]
    rw [← hd] at hs
    have := hall' k hk
    unfold docOf at this
    rw [if_neg (by omega), if_neg (by omega), if_pos e] at this
    split at this
    · simp at this
    rename_i hno
    exact ⟨_, hs, Classical.not_not.1 fun z => hno (.inr (.inl z)), hcl k _ hk (.inr e) hs⟩
  · rw [hnext]; unfold osStep; rw [if_neg (by omega), if_neg (by omega)]
  · exact (hjmp k hk e).2.2
  · have hm : k ∈ osAt l (k + 1) := by rw [hpush k hk e]; simp
    obtain ⟨j, h1, h2, h3, h4⟩ := osAt_shut (l.length - (k + 1)) (k + 1) hm (by rw [show k + 1 + (l.length - (k + 1)) = l.length by omega, hfin]; simp)
    rw [hcl j k (by omega) h3 h4]
    omega


end Go.Proofs.YtgemadoieielcacDoor
namespace Go.Proofs.YtgemadoieielcacDoor
open Go.ChangeShapes Go.WideShapes Go.ChangeAt Go.RowKit

/-- The least that is left, from the end on. -/
def restAt (l : List In) : Nat → Nat → Int
  | 0, _ => 0
  | d + 1, j => if j = l.length - (d + 1) then ruleI l (restAt l d) (clF l) j else restAt l d j
def restF (l : List In) (j : Nat) : Int := restAt l l.length j

/-- Where what is asked of an instruction lies. -/
structure Fwd (l : List In) (cl : Nat → Nat) : Prop where
  shut : ∀ k, k < l.length → ((l.getD k in0).op = 13 ∨ (l.getD k in0).op = 16) → k < cl k ∧ cl k < l.length
  jump : ∀ k, k < l.length → ((l.getD k in0).op = 11 ∨ (l.getD k in0).op = 12) → k < (l.getD k in0).a.toNat ∧ (l.getD k in0).a.toNat ≤ l.length
  form : ∀ k, k < l.length → formErr (l.getD k in0) = 0

theorem rule_mono {l : List In} {cl : Nat → Nat} {R R' : Nat → Int} (hw : Fwd l cl) {k : Nat} (hk : k < l.length) (h : ∀ j, k < j → j ≤ l.length → R j ≤ R' j) : ruleI l R cl k ≤ ruleI l R' cl k := by
  have h1 := h (k + 1) (by omega) (by omega)
  have hb := (form_a (hw.form k hk)).2.2.2.2.2.2.2.1
  unfold ruleI
  split
  · omega
  split
  · omega
  split
  · rename_i e
    have := hw.jump k hk (.inl e)
    have := h _ this.1 this.2
    omega
  split
  · rename_i e
    have := hw.jump k hk (.inr e)
    have := h _ this.1 this.2
    omega
  split
  · rename_i e
    have := hw.shut k hk (.inl e)
    have := h (cl k + 1) (by omega) (by omega)
    have := Int.mul_le_mul_of_nonneg_left h1 (show 0 ≤ (l.getD k in0).b + 1 by omega)
    omega
  split
  · rename_i e
    have := hw.shut k hk (.inr e)
    have := h (cl k + 1) (by omega) (by omega)
    omega
  · omega

theorem rule_congr {l : List In} {cl : Nat → Nat} {R R' : Nat → Int} (hw : Fwd l cl) {k : Nat} (hk : k < l.length) (h : ∀ j, k < j → j ≤ l.length → R j = R' j) : ruleI l R cl k = ruleI l R' cl k :=
  Int.le_antisymm (rule_mono hw hk fun j h1 h2 => Int.le_of_eq (h j h1 h2)) (rule_mono hw hk fun j h1 h2 => Int.le_of_eq (h j h1 h2).symm)

theorem rule_pos {l : List In} {cl : Nat → Nat} {R : Nat → Int} (hw : Fwd l cl) {k : Nat} (hk : k < l.length) (h : ∀ j, 0 ≤ R j) : 0 ≤ ruleI l R cl k := by
  have h1 := h (k + 1)
  have hf := hw.form k hk
  have hb := (form_a hf).2.2.2.2.2.2.2.1
  have hc := (cost_le hf false).1
  have h2 := h (cl k + 1)
  have h3 := h (l.getD k in0).a.toNat
  unfold ruleI
  split
  · omega
  split
  · omega
  split
  · omega
  split
  · omega
  split
  · have := Int.mul_nonneg (show 0 ≤ (l.getD k in0).b + 1 by omega) h1
    omega
  split
  · omega
  · omega

theorem restAt_stays (l : List In) {j : Nat} : ∀ d e, d + e ≤ l.length → l.length - d ≤ j → restAt l (d + e) j = restAt l d j
  | d, 0, _, _ => rfl
  | d, e + 1, h, hj => by
    show (if j = l.length - (d + e + 1) then _ else restAt l (d + e) j) = _
    rw [if_neg (by omega)]
    exact restAt_stays l d e (by omega) hj

theorem restAt_out (l : List In) {j : Nat} (hj : l.length ≤ j) : ∀ d, d ≤ l.length → restAt l d j = 0
  | 0, _ => rfl
  | d + 1, h => by
    show (if j = l.length - (d + 1) then _ else restAt l d j) = _
    rw [if_neg (by omega)]
    exact restAt_out l hj d (by omega)

theorem restF_out {l : List In} {j : Nat} (hj : l.length ≤ j) : restF l j = 0 := restAt_out l hj _ (Nat.le_refl _)

theorem restF_at {l : List In} {k d : Nat} (hk : k < l.length) (hd : l.length - k ≤ d) (hd' : d ≤ l.length) : restAt l d k = restF l k := by
  unfold restF
  have h1 := restAt_stays l (j := k) (l.length - k) (d - (l.length - k)) (by omega) (by omega)
  have h2 := restAt_stays l (j := k) (l.length - k) (l.length - (l.length - k)) (by omega) (by omega)
  rw [show l.length - k + (d - (l.length - k)) = d by omega] at h1
  rw [show l.length - k + (l.length - (l.length - k)) = l.length by omega] at h2
  rw [h1, h2]

theorem restF_rule {l : List In} (hw : Fwd l (clF l)) {k : Nat} (hk : k < l.length) : restF l k = ruleI l (restF l) (clF l) k := by
  rw [← restF_at hk (Nat.le_refl _) (Nat.sub_le _ _)]
  obtain ⟨d, hd⟩ : ∃ d, l.length - k = d + 1 := ⟨l.length - k - 1, by omega⟩
  rw [hd]
  show (if k = l.length - (d + 1) then ruleI l (restAt l d) (clF l) k else _) = _
  rw [if_pos (by omega)]
  refine rule_congr hw hk fun j h1 h2 => ?_
  by_cases hj : j < l.length
  · exact restF_at hj (by omega) (by omega)
  · rw [restF_out (by omega), restAt_out l (by omega) d (by omega)]

theorem restAt_pos {l : List In} (hw : Fwd l (clF l)) : ∀ d, d ≤ l.length → ∀ j, 0 ≤ restAt l d j
  | 0, _, _ => Int.le_refl _
  | d + 1, h, j => by
    show 0 ≤ (if j = l.length - (d + 1) then _ else restAt l d j)
    split
    · exact rule_pos hw (by omega) (restAt_pos hw d (by omega))
    · exact restAt_pos hw d (by omega) j

theorem restF_pos {l : List In} (hw : Fwd l (clF l)) (j : Nat) : 0 ≤ restF l j := restAt_pos hw _ (Nat.le_refl _) j

/-- It is the least. -/
theorem restF_least {l : List In} (hw : Fwd l (clF l)) {R : Nat → Int} (h0 : 0 ≤ R l.length) (hR : ∀ k, k < l.length → ruleI l R (clF l) k ≤ R k) : ∀ (d k : Nat), l.length - k ≤ d → k ≤ l.length → restF l k ≤ R k
  | 0, k, hd, hk => by
    have : k = l.length := by omega
    subst this
    rw [restF_out (Nat.le_refl _)]; exact h0
  | d + 1, k, hd, hk => by
    by_cases e : k = l.length
    · subst e
      rw [restF_out (Nat.le_refl _)]; exact h0
    · rw [restF_rule hw (by omega)]
      refine Int.le_trans (rule_mono hw (by omega) fun j h1 h2 => ?_) (hR k (by omega))
      exact restF_least hw h0 hR d j (by omega) h2

/-- How great what is asked can be. -/
theorem rule_most {l : List In} {cl : Nat → Nat} {R : Nat → Int} (hw : Fwd l cl) {k : Nat} (hk : k < l.length) (h : ∀ j, k < j → R j ≤ 1099511627776) : ruleI l R cl k ≤ 1103913000000000 := by
  have h1 := h (k + 1) (by omega)
  have hf := hw.form k hk
  obtain ⟨-, -, -, -, h13, -⟩ := form_a hf
  have hc := (cost_le hf false).2
  unfold ruleI
  split
  · omega
  split
  · omega
  split
  · rename_i e
    have := h _ (hw.jump k hk (.inl e)).1
    omega
  split
  · rename_i e
    have := h _ (hw.jump k hk (.inr e)).1
    omega
  split
  · rename_i e
    have hb := h13 e
    have := h (cl k + 1) (by have := hw.shut k hk (.inl e); omega)
    have := Int.mul_le_mul_of_nonneg_left h1 (show 0 ≤ (l.getD k in0).b + 1 by omega)
    omega
  split
  · rename_i e
    have := h (cl k + 1) (by have := hw.shut k hk (.inr e); omega)
    omega
  · omega


end Go.Proofs.YtgemadoieielcacDoor
namespace Go.Proofs.YtgemadoieielcacDoor
open Go.ChangeShapes Go.WideShapes Go.ChangeAt Go.RowKit

/-- What is known of an image with which nothing is wrong. -/
structure GL (l : List In) : Prop where
  len : l.length ≤ 2000
  nst : Nst l (osAt l) (clF l)
  fwd : Fwd l (clF l)
  shut : ∀ k, k < l.length → (l.getD k in0).op = 13 → (l.getD (clF l k) in0).op = 14

theorem gl_of {l : List In} (h : checkI l = (0, 0)) : GL l := by
  rw [← doc_check] at h
  obtain ⟨M, hg⟩ := good_of h
  obtain ⟨hn, h1, h2⟩ := nst_of h
  refine ⟨hg.len, hn, ⟨h1, h2, hg.form⟩, fun k hk e => ?_⟩
  have hm : k ∈ osAt l (k + 1) := by rw [hn.push k hk (.inl e)]; simp
  obtain ⟨j, a1, a2, a3, a4⟩ := osAt_shut (l.length - (k + 1)) (k + 1) hm (by rw [show k + 1 + (l.length - (k + 1)) = l.length by omega, hn.fin]; simp)
  rcases a3 with a3 | a3
  · obtain ⟨o, b1, b2, -, -, b5⟩ := hn.again j (by omega) a3
    have ho : o = k := by
      have := b1.symm.trans a4
      simpa using this
    subst ho
    rw [b5]; exact a3
  · obtain ⟨o, b1, b2, b5⟩ := hn.unlock j (by omega) a3
    have ho : o = k := by
      have := b1.symm.trans a4
      simpa using this
    subst ho
    omega

theorem GL.open_ne {l : List In} (h : GL l) {k : Nat} (hk : k < l.length) (e : (l.getD k in0).op = 14 ∨ (l.getD k in0).op = 17) : osAt l k ≠ [] := by
  rcases e with e | e
  · obtain ⟨o, b1, -⟩ := h.nst.again k hk e
    rw [b1]; simp
  · obtain ⟨o, b1, -⟩ := h.nst.unlock k hk e
    rw [b1]; simp

end Go.Proofs.YtgemadoieielcacDoor
