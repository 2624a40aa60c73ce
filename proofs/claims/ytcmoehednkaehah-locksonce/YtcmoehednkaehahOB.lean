import Derived.Test.YtcmoehednkaehahOA
namespace Go.Proofs.Ytcmoehednkaehah.Once

/-- How long j was held up so far (c), and how much longer it can be: lf is what is left to do of the stretch that one is in. -/
def Up (y : Sy) (s : Sx) (lf : Nat → Int) (j : Nat) (c most : Int) : Prop := c ≤ most ∧ ∀ r, y.p r < y.p j → y.p j ≤ act y s r → c + lf r ≤ most

theorem Up.start {y : Sy} {s : Sx} {lf : Nat → Int} {j : Nat} {most : Int} (h0 : 0 ≤ most) (h : ∀ r, y.p r < y.p j → s.hd r ≠ [] → lf r ≤ most) : Up y s lf j 0 most := by
  refine ⟨h0, fun r hr ha => ?_⟩
  have : s.hd r ≠ [] := fun e => by rw [act_none y s e] at ha; omega
  have := h r hr this
  omega

/-- One acts, and that takes no time. -/
theorem Up.step {y : Sy} {s s' : Sx} {lf lf' : Nat → Int} {j f : Nat} {c most now : Int} (u : Up y s lf j c most) (hj : There y s now j) (hf : Fm y s now f)
    (hd : ∀ r, r ≠ f → s'.hd r = s.hd r) (hl : ∀ r, r ≠ f → lf' r = lf r) (hs : s.hd f ≠ [] → s'.hd f ≠ [] → lf' f ≤ lf f) : Up y s' lf' j c most := by
  refine ⟨u.1, fun r hr ha => ?_⟩
  by_cases e : r = f
  · subst e
    have hne : j ≠ r := fun e => by subst e; omega
    by_cases hlow : act y s r < y.p j
    · exact absurd hf (Inv.below hj hne hlow)
    · have h1 := u.2 r hr (by omega)
      have h2 : s.hd r ≠ [] := fun e => by rw [act_none y s e] at hlow; omega
      have h3 : s'.hd r ≠ [] := fun e => by rw [act_none y s' e] at ha; omega
      have := hs h2 h3
      omega
  · have e1 : act y s' r = act y s r := by unfold act; rw [hd r e]
    rw [e1] at ha
    rw [hl r e]
    exact u.2 r hr ha

/-- One with more works for a tick, or j itself. -/
theorem Up.high {y : Sy} {s : Sx} {lf lf' : Nat → Int} {j f : Nat} {c most : Int} (u : Up y s lf j c most) (hp : y.p j ≤ y.p f) (hl : ∀ r, r ≠ f → lf' r = lf r) : Up y s lf' j c most :=
  ⟨u.1, fun r hr ha => by rw [hl r (fun e => by subst e; omega)]; exact u.2 r hr ha⟩

/-- One with less works for a tick: it holds some, and that much less is left. -/
theorem Up.low {y : Sy} {s : Sx} {lf lf' : Nat → Int} {j f : Nat} {c most now : Int} (v : Inv y s now) (u : Up y s lf j c most) (hj : There y s now j) (hf : Fm y s now f) (hp : y.p f < y.p j)
    (hl : ∀ r, r ≠ f → lf' r = lf r) (h0 : s.hd f ≠ [] → 0 ≤ lf' f ∧ lf' f + 1 ≤ lf f) : Up y s lf' j (c + 1) most := by
  have hne : j ≠ f := fun e => by subst e; omega
  have hhi : y.p j ≤ act y s f := by
    by_cases h : act y s f < y.p j
    · exact absurd hf (Inv.below hj hne h)
    · omega
  have hh : s.hd f ≠ [] := fun e => by rw [act_none y s e] at hhi; omega
  have h1 := u.2 f hp hhi
  obtain ⟨h2, h3⟩ := h0 hh
  refine ⟨by omega, fun r hr ha => ?_⟩
  by_cases e : r = f
  · subst e; omega
  · exfalso
    have hr' : s.hd r ≠ [] := fun e => by rw [act_none y s e] at ha; omega
    have := v.one e hr' hh hr hp
    omega
end Go.Proofs.Ytcmoehednkaehah.Once
