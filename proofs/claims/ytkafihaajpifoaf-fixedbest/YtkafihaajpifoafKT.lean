import Derived.Test.YtkafihaajpifoafKS
namespace Go.Proofs.Ytkafihaajpifoaf
open Go.ChangeShapes Go.WideShapes Go.ChangeAt Go.RowKit

/- What is told. -/
theorem respsFrom_each {l : List Ta} : ∀ (bs : List Int) (k : Nat) (acc rs : List Int), respsFrom l bs k acc = (rs, (0, 0)) → ∃ new : List Int, rs = acc ++ new ∧ new.length = bs.length ∧ ∀ (n : Nat) (b : Int), bs[n]? = some b → new[n]? = some (respF l ((k + n : Nat) : Int) b).1 ∧ (respF l ((k + n : Nat) : Int) b).2.1 = 0
  | [], k, acc, rs, h => by
    unfold respsFrom at h
    simp at h
    exact ⟨[], by simp [h], rfl, fun n b hb => by simp at hb⟩
  | b0 :: r, k, acc, rs, h => by
    unfold respsFrom at h
    by_cases hz : (respF l (k : Int) b0).2.1 ≠ 0
    · rw [if_pos hz] at h
      simp at h
      exact absurd (by rw [h.2]) hz
    · rw [if_neg hz] at h
      obtain ⟨new, g1, g2, g3⟩ := respsFrom_each r (k + 1) _ rs h
      refine ⟨_ :: new, by rw [g1, List.append_assoc]; rfl, by simp [g2], fun n b hb => ?_⟩
      cases n with
      | zero =>
        simp at hb
        subst hb
        exact ⟨rfl, by simpa using hz⟩
      | succ n =>
        have := g3 n b (by simpa using hb)
        rw [show k + 1 + n = k + (n + 1) by omega] at this
        simpa using this

/-- Those that are due sooner go first: that does. -/
theorem dead_good {l m : List Ta} (hl : ∀ x ∈ l, stands x = true) (hDT : ∀ x ∈ l, x.d ≤ x.t) (hj : ∀ x ∈ l, x.j = 0) (hd : ∀ i, i < l.length → worstF (aheadP l i) l i 0 ≠ 0) (hlen : m.length = l.length) (hs : ∀ k, k < l.length → SameT (Tk m k) (Tk l k))
    (hp : ∀ i k, i < l.length → k < l.length → k ≠ i → ((Tk m i).p ≤ (Tk m k).p ↔ dueA l i k = true)) : ∀ i, i < l.length → worstF (aheadP m i) m i 0 ≠ 0 := by
  intro i hi
  rw [worst_same hlen hs (B := dueA l i) hi (fun k hk hne => by
    apply Bool.eq_iff_iff.2
    unfold aheadP
    rw [decide_eq_true_eq]
    exact hp i k hi hk hne)]
  exact deadline_step hl hDT hj hd i hi

/-- Responses says OK where each is in time. -/
theorem resps_ok {m : List Ta} {bs : List Int} : ∀ (r : List Int) (k : Nat) (acc : List Int), r = bs.drop k → k + r.length ≤ m.length → (∀ i, i < m.length → worstF (aheadP m i) m i (bs.getD i 0) ≠ 0) → (∀ b ∈ bs, 0 ≤ b ∧ b ≤ 10000) → (respsFrom m r k acc).2 = (0, 0)
  | [], _, _, _, _, _, _ => rfl
  | b :: r, k, acc, hr, hk, h, hb => by
    have hkb : bs[k]? = some b := by
      have := congrArg (fun q => q[0]?) hr
      simp at this
      exact this.symm
    have hk' : k < m.length := by simp at hk; omega
    have hbb := hb b (List.mem_of_getElem? hkb)
    have hw := h k hk'
    rw [show bs.getD k 0 = b by rw [List.getD_eq_getElem?_getD, hkb]; rfl] at hw
    have e : respF m (k : Int) b = (respR m k b, (0, 0)) := by
      unfold respF
      rw [if_neg (by omega), Int.toNat_natCast, if_neg (show ¬ respR m k b = 0 from hw)]
    unfold respsFrom
    rw [e, if_neg (by simp)]
    refine resps_ok r (k + 1) _ ?_ (by simp at hk; omega) h hb
    have : (b :: r).tail = (bs.drop k).tail := by rw [hr]
    simpa using this

theorem responses_ok {m : List Ta} {bs : List Int} (hX : (chkX m).1 = 0) (hlen : bs.length = m.length) (h : ∀ i, i < m.length → worstF (aheadP m i) m i (bs.getD i 0) ≠ 0) (hb : ∀ b ∈ bs, 0 ≤ b ∧ b ≤ 10000) : (responsesF m bs).2 = (0, 0) := by
  unfold responsesF
  rw [if_neg (by omega), if_neg (by omega)]
  exact resps_ok bs 0 [] rfl (by omega) h hb

/-- And the other way: where Responses says OK each is in time, and no block is out of its range. -/
theorem responses_each {l : List Ta} {bs rs : List Int} (h : responsesF l bs = (rs, (0, 0))) : ∀ i, i < l.length → worstF (aheadP l i) l i (bs.getD i 0) ≠ 0 ∧ 0 ≤ bs.getD i 0 ∧ bs.getD i 0 ≤ 10000 := by
  intro i hi
  unfold responsesF at h
  by_cases h0 : (chkX l).1 ≠ 0
  · rw [if_pos h0] at h
    have := (Prod.mk.inj h).2
    exact absurd (by rw [this]) h0
  · rw [if_neg h0] at h
    by_cases h1 : bs.length ≠ l.length
    · rw [if_pos h1] at h
      have := (Prod.mk.inj (Prod.mk.inj h).2).1
      cases this
    · rw [if_neg h1] at h
      obtain ⟨new, -, -, g3⟩ := respsFrom_each bs 0 [] rs h
      have hbi : bs[i]? = some (bs.getD i 0) := by rw [List.getD_eq_getElem?_getD]; simp [show i < bs.length by omega]
      have g := (g3 i _ hbi).2
      rw [Nat.zero_add] at g
      unfold respF at g
      by_cases q : (i : Int) < 0 ∨ (l.length : Int) ≤ (i : Int) ∨ bs.getD i 0 < 0 ∨ 10000 < bs.getD i 0
      · rw [if_pos q] at g; cases g
      · rw [if_neg q, Int.toNat_natCast] at g
        by_cases z : respR l i (bs.getD i 0) = 0
        · rw [if_pos z] at g; cases g
        · exact ⟨z, by omega, by omega⟩
end Go.Proofs.Ytkafihaajpifoaf
