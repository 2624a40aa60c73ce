import Derived.Test.YtccoobcggbbciamKC2
namespace Go.Proofs.Ytccoobcggbbciam
open Go.ChangeShapes Go.WideShapes Go.ChangeAt Go.RowKit

/- Chapter 18, pure: what holds of a scene goes on to hold. -/
namespace Keep
theorem runQ_mem {q : List Pc} {p : Pc} (h : p ∈ runQ q) : ∃ p0 r, q = p0 :: r ∧ ((p = { p0 with lf := p0.lf - 1 } ∧ 0 < p0.lf - 1) ∨ p ∈ r) := by
  cases q with
  | nil => cases h
  | cons p0 r =>
    refine ⟨p0, r, rfl, ?_⟩
    by_cases hl : 0 < p0.lf - 1
    · rw [show runQ (p0 :: r) = { p0 with lf := p0.lf - 1 } :: r from if_pos hl] at h
      rcases List.mem_cons.1 h with rfl | h
      · exact .inl ⟨rfl, hl⟩
      · exact .inr h
    · rw [show runQ (p0 :: r) = r from if_neg hl] at h
      exact .inr h
theorem runQ_pw {R : Int → Int → Int → Int → Prop} {q : List Pc} (h : q.Pairwise (fun a b => R a.cm a.si b.cm b.si)) : (runQ q).Pairwise (fun a b => R a.cm a.si b.cm b.si) := by
  cases q with
  | nil => exact h
  | cons p0 r =>
    obtain ⟨h1, h2⟩ := List.pairwise_cons.1 h
    by_cases hl : 0 < p0.lf - 1
    · rw [show runQ (p0 :: r) = { p0 with lf := p0.lf - 1 } :: r from if_pos hl]
      exact List.pairwise_cons.2 ⟨h1, h2⟩
    · rw [show runQ (p0 :: r) = r from if_neg hl]
      exact h2
theorem pw_if {R : Pc → Pc → Prop} {c : Prop} [Decidable c] {x : Pc} : (if c then [x] else []).Pairwise R := by
  split
  · exact List.pairwise_singleton _ _
  · exact List.Pairwise.nil
theorem mem_if {c : Prop} [Decidable c] {x p : Pc} (h : p ∈ (if c then [x] else [])) : c ∧ p = x := by
  split at h
  · next hc => exact ⟨hc, List.mem_singleton.1 h⟩
  · cases h

section
variable {l : List Pa} {tk : List Int} {cs : List Co} {Cm : Nat → Prop} {now : Int} {F : Nat → Bool} {z : Int} {s s' : Sc}

theorem Tc.noend (h : Tc l tk cs Cm now F z s s') {k n : Nat} (hk : k < l.length) (hr : rlJ s k n = false) : En s' n k = -1 := by
  obtain ⟨h1, h2⟩ := rlJ_no.1 hr
  rw [h.tr.e n k hk, if_neg]
  · exact h2
  · rintro ⟨g1, g2⟩
    obtain ⟨-, -, n', p, g3, g4, -⟩ := h.isD g1
    have : n = n' := by omega
    subst this
    rw [h1] at g4
    cases g4

theorem Iv.se0 (h : PsOk l) {k : Nat} (hk : k < l.length) : 0 ≤ se l k := (h.at_ k _ (some_getD (d := paZ) hk)).se.1
theorem Iv.fr_lt (h : PsOk l) {k f : Nat} (hk : k < l.length) (e : fr l k = (f : Int)) : f < k := by
  rcases fr_at h hk with ⟨g, -⟩ | ⟨f', g1, g2, -⟩
  · omega
  · omega

theorem Tc.growM (h : Tc l tk cs Cm now F z s s') {k n : Nat} (hk : k < l.length) (hr : rlM s k n = true ∨ nwM l F s k n) : rlM s' k n = true := by
  rcases hr with hr | hr
  · by_cases hj : rlJ s k n = true
    · unfold rlM
      rw [(h.grow hk).2 (.inl hj), Bool.or_true]
    · unfold rlM at hr
      have hm : (fnd (M s k) n).isSome = true := by
        rw [Bool.or_eq_true] at hr
        rcases hr with g | g
        · exact g
        · exact absurd g hj
      by_cases hc : z = (k : Int) ∧ n = runC (M s k)
      · by_cases hd : runD (M s k) = true
        · unfold rlM
          rw [(h.grow hk).2 (.inr (.inr ⟨hc.1, hd, hc.2⟩)), Bool.or_true]
        · unfold rlM
          rw [h.fndM hk n, if_pos hc, if_neg hd]
          cases e : fnd (M s k) n with
          | some p => rfl
          | none => rw [e] at hm; cases hm
      · unfold rlM
        rw [h.fndM hk n, if_neg hc]
        cases e : fnd (M s k) n with
        | some p => rfl
        | none => rw [e] at hm; cases hm
  · unfold rlM
    rw [h.fndM hk n, if_pos hr]
    have : ∀ a : Option Pc, (a.or (some ⟨n, now + 1, se l k⟩)).isSome = true := fun a => by cases a <;> rfl
    rw [this]; rfl

/-- The pieces of a part's line behind the tick. -/
theorem Tc.memJ (h : Tc l tk cs Cm now F z s s') {k : Nat} (hk : k < l.length) {p : Pc} (hp : p ∈ (if F k = true then runQ (J s k) else J s k)) : ∃ n : Nat, p.cm = n ∧ (fnd (J s k) n).isSome = true ∧ 1 ≤ p.lf ∧ p.lf ≤ wkF l tk k n ∧ En s' n k = -1 := by
  by_cases hF : F k = true
  · rw [if_pos hF] at hp
    obtain ⟨-, hne⟩ := h.hF k hF
    obtain ⟨n0, p0, r, g1, g2, g3, g4, g5, g6, g7, g8, g9⟩ := h.iv.head hk hne
    obtain ⟨p1, r1, e1, e2⟩ := runQ_mem hp
    rw [g1] at e1
    obtain ⟨rfl, rfl⟩ := List.cons.inj e1
    rcases e2 with ⟨rfl, e3⟩ | e2
    · refine ⟨n0, g2, by rw [g9]; rfl, by dsimp only; omega, by dsimp only; omega, ?_⟩
      rw [h.tr.e n0 k hk, if_neg]
      · exact g4
      · rintro ⟨a1, -⟩
        unfold rD at a1
        rw [Bool.and_eq_true] at a1
        have := g8.1 a1.2
        omega
    · obtain ⟨n, k1, k2, k3, k4⟩ := h.iv.j k hk p (by rw [g1]; exact List.mem_cons_of_mem _ e2)
      refine ⟨n, k1, fnd_isSome (by rw [g1]; exact List.mem_cons_of_mem _ e2) k1, k3, k4, ?_⟩
      rw [h.tr.e n k hk, if_neg]
      · exact k2
      · rintro ⟨-, a2⟩
        have := g7 p e2
        omega
  · rw [if_neg hF] at hp
    obtain ⟨n, k1, k2, k3, k4⟩ := h.iv.j k hk p hp
    refine ⟨n, k1, fnd_isSome hp k1, k3, k4, ?_⟩
    rw [h.tr.e n k hk, if_neg]
    · exact k2
    · rintro ⟨a1, -⟩
      unfold rD at a1
      rw [Bool.and_eq_true] at a1
      exact hF a1.1

theorem Tc.next (h : Tc l tk cs Cm now F z s s') : Iv l tk cs Cm (now + 1) s' := by
  have hout : ∀ n k, l.length ≤ k → En s' n k = -1 := fun n k hk => by
    unfold En
    refine getD_ge ?_
    rw [h.tr.er]
    rcases Nat.lt_or_ge n cs.length with hn | hn
    · rw [h.iv.er n hn]; exact hk
    · rw [getD_ge (a := s.ends) (by rw [h.iv.le]; exact hn)]
      exact Nat.zero_le _
  have hnewJ : ∀ k, k < l.length → ∀ n, nwJ l F z s k n → fnd (J s k) n = none := fun k hk n hn => (rlJ_no.1 (h.isNew hk hn).1).1
  refine ⟨h.tr.lj, h.tr.lm, h.tr.le.trans h.iv.le, fun n hn => (h.tr.er n).trans (h.iv.er n hn), fun n k => ?_, fun k hk p hp => ?_, fun k hk => ?_, fun k hk p hp => ?_, fun k hk => ?_, fun k n hk hr => ?_, fun k n hr hf hc => ?_, fun k n f hr hf he hs => ?_, fun k n f hr hf he hs => ?_, ?_⟩
  · rcases Nat.lt_or_ge k l.length with hk | hk
    · rw [h.tr.e n k hk]
      have := h.now0
      split
      · right; omega
      · rcases h.iv.ev n k with g | g
        · exact .inl g
        · right; omega
    · exact .inl (hout n k hk)
  · rw [h.tr.j k hk, List.mem_append, List.mem_append] at hp
    rcases hp with (hp | hp) | hp
    · obtain ⟨n, g1, -, g3, g4, g5⟩ := h.memJ hk hp
      exact ⟨n, g1, g5, g3, g4⟩
    · obtain ⟨⟨c1, c2, c3⟩, rfl⟩ := mem_if hp
      have hn := h.isNew (n := runC (J s (fr l k).toNat)) hk (.inl ⟨c1, c2, c3, rfl⟩)
      exact ⟨_, rfl, h.noend hk hn.1, (wkF_ok h.ok hk _).1, Int.le_refl _⟩
    · obtain ⟨⟨c1, c2⟩, rfl⟩ := mem_if hp
      have hn := h.isNew (n := runC (M s k)) hk (.inr ⟨c1, c2, rfl⟩)
      exact ⟨_, rfl, h.noend hk hn.1, (wkF_ok h.ok hk _).1, Int.le_refl _⟩
  · rw [h.tr.j k hk, List.pairwise_append, List.pairwise_append]
    have hAX : ∀ a ∈ (if F k = true then runQ (J s k) else J s k), ∀ n : Nat, nwJ l F z s k n → a.cm ≠ (n : Int) := fun a ha n hn e => by
      obtain ⟨n', g1, g2, -⟩ := h.memJ hk ha
      have : n' = n := by omega
      subst this
      rw [hnewJ k hk n' hn] at g2
      cases g2
    refine ⟨⟨?_, pw_if, fun a ha b hb => ?_⟩, pw_if, fun a ha b hb => ?_⟩
    · split
      · exact runQ_pw (R := fun a _ b _ => a ≠ b) (h.iv.jd k hk)
      · exact h.iv.jd k hk
    · obtain ⟨⟨c1, c2, c3⟩, rfl⟩ := mem_if hb
      exact hAX a ha _ (.inl ⟨c1, c2, c3, rfl⟩)
    · obtain ⟨⟨c1, c2⟩, rfl⟩ := mem_if hb
      rcases List.mem_append.1 ha with ha | ha
      · exact hAX a ha _ (.inr ⟨c1, c2, rfl⟩)
      · obtain ⟨⟨b1, b2, b3⟩, rfl⟩ := mem_if ha
        exfalso
        rcases h.hz with e | ⟨u, e, hu, hne⟩
        · omega
        · have : u = k := by omega
          subst this
          obtain ⟨-, -, p, -, -, -, -, -, -, b6, b7, -⟩ := h.iv.headM hu hne
          omega
  · rw [h.tr.m k hk, List.mem_append] at hp
    rcases hp with hp | hp
    · have hold : ∃ p0, p0 ∈ M s k ∧ p.cm = p0.cm ∧ p.si = p0.si ∧ 1 ≤ p.lf ∧ p.lf ≤ p0.lf ∧ ¬ (z = (k : Int) ∧ runD (M s k) = true ∧ p.cm = (runC (M s k) : Int)) := by
        by_cases hz : z = (k : Int)
        · rw [if_pos hz] at hp
          rcases h.hz with e | ⟨u, e, hu, hne⟩
          · omega
          have : u = k := by omega
          subst this
          obtain ⟨n0, f, p0, r, g1, g2, g3, g4, g5, g6, g7, g8, g9, g10, -⟩ := h.iv.headM hu hne
          obtain ⟨p1, r1, e1, e2⟩ := runQ_mem hp
          rw [g1] at e1
          obtain ⟨rfl, rfl⟩ := List.cons.inj e1
          rcases e2 with ⟨rfl, e3⟩ | e2
          · refine ⟨p0, by rw [g1]; exact List.mem_cons_self, rfl, rfl, by dsimp only; omega, by dsimp only; omega, ?_⟩
            rintro ⟨-, a2, -⟩
            have := g9.1 a2
            omega
          · have hm := h.iv.m u hu p (by rw [g1]; exact List.mem_cons_of_mem _ e2)
            obtain ⟨-, -, -, -, -, q5, -⟩ := hm
            refine ⟨p, by rw [g1]; exact List.mem_cons_of_mem _ e2, rfl, rfl, q5, Int.le_refl _, ?_⟩
            rintro ⟨-, -, a3⟩
            exact (g8 p e2).1 (by omega)
        · rw [if_neg hz] at hp
          obtain ⟨-, -, -, -, -, q5, -⟩ := h.iv.m k hk p hp
          exact ⟨p, hp, rfl, rfl, q5, Int.le_refl _, fun g => hz g.1⟩
      obtain ⟨p0, a1, a2, a3, a4, a5, a6⟩ := hold
      obtain ⟨n, f, q1, q2, q3, q4, q5, q6, q7, q8⟩ := h.iv.m k hk p0 a1
      have hfk := Iv.fr_lt h.ok hk q7
      have hr0 : rlJ s k n = false := rlJ_no.2 ⟨q2, q3⟩
      have hnw : ¬ nwJ l F z s k n := by
        rintro (⟨-, b2, -⟩ | ⟨b1, b2, b3⟩)
        · omega
        · exact a6 ⟨b1, b2, by omega⟩
      have hr1 : rlJ s' k n = false := by
        rw [← Bool.not_eq_true, h.grow hk]
        rintro (g | g)
        · rw [hr0] at g; cases g
        · exact hnw g
      refine ⟨n, f, by omega, (rlJ_no.1 hr1).1, (rlJ_no.1 hr1).2, a4, by omega, by omega, q7, ?_⟩
      rw [h.ends (by omega) q8]
      exact q8
    · obtain ⟨⟨c1, c2, c3⟩, rfl⟩ := mem_if hp
      obtain ⟨g1, g2, g3, g4⟩ := h.hang hk c1 c3 rfl
      obtain ⟨f, e1, -, -⟩ := h.from hk c1
      have hr1 : rlJ s' k (runC (J s (fr l k).toNat)) = false := by
        rw [← Bool.not_eq_true, h.grow hk]
        rintro (g | g)
        · rw [g1] at g; cases g
        · rcases g with ⟨-, b2, -⟩ | ⟨b1, b2, b3⟩
          · exact c2 b2
          · rcases h.hz with e | ⟨u, e, hu, hne⟩
            · omega
            · have : u = k := by omega
              subst this
              obtain ⟨n0, -, p, -, -, -, k3, -, -, -, -, -, -, k10, -⟩ := h.iv.headM hu hne
              have : runC (J s (fr l u).toNat) = n0 := by omega
              rw [this, k10] at g2
              cases g2
      have := Iv.se0 h.ok hk
      exact ⟨_, f, rfl, (rlJ_no.1 hr1).1, (rlJ_no.1 hr1).2, by dsimp only; omega, Int.le_refl _, Int.le_refl _, e1, g4 f e1⟩
  · rw [h.tr.m k hk, List.pairwise_append]
    refine ⟨?_, pw_if, fun a ha b hb => ?_⟩
    · split
      · exact runQ_pw (R := fun a b c d => a ≠ c ∧ b < d) (h.iv.md k hk)
      · exact h.iv.md k hk
    · obtain ⟨⟨c1, c2, c3⟩, rfl⟩ := mem_if hb
      obtain ⟨-, g2, -, -⟩ := h.hang hk c1 c3 rfl
      have hold : ∃ p0, p0 ∈ M s k ∧ a.cm = p0.cm ∧ a.si = p0.si := by
        by_cases hz : z = (k : Int)
        · rw [if_pos hz] at ha
          obtain ⟨p1, r1, e1, e2⟩ := runQ_mem ha
          rcases e2 with ⟨rfl, -⟩ | e2
          · exact ⟨p1, by rw [e1]; exact List.mem_cons_self, rfl, rfl⟩
          · exact ⟨a, by rw [e1]; exact List.mem_cons_of_mem _ e2, rfl, rfl⟩
        · rw [if_neg hz] at ha
          exact ⟨a, ha, rfl, rfl⟩
      obtain ⟨p0, a1, a2, a3⟩ := hold
      obtain ⟨-, -, -, -, -, -, -, q6, -⟩ := h.iv.m k hk p0 a1
      refine ⟨fun e => fnd_none.1 g2 p0 a1 (by rw [← a2, e]), by dsimp only; omega⟩
  · rcases (h.grow hk).1 hr with g | g
    · obtain ⟨g1, g2, g3⟩ := h.iv.rl k n hk g
      refine ⟨g1, g2, fun f hf => ?_⟩
      have := Iv.fr_lt h.ok hk hf
      rw [h.ends (by omega) (g3 f hf)]
      exact g3 f hf
    · obtain ⟨-, g2, f, g3, g4⟩ := h.isNew hk g
      refine ⟨g2, fun e => by omega, fun f' hf' => ?_⟩
      have : f' = f := by omega
      subst this
      exact g4
  · exact (h.grow hr.2.1).2 (.inl (h.iv.pr1 k n hr hf hc))
  · have hfk := Iv.fr_lt h.ok hr.2.1 hf
    have hk := hr.2.1
    by_cases ho : En s n f ≠ -1
    · exact (h.grow hk).2 (.inl (h.iv.pr2 k n f hr hf ho hs))
    · rw [h.tr.e n f (by omega)] at he
      by_cases hc : rD s F f = true ∧ n = runC (J s f)
      · exact (h.grow hk).2 (.inr (.inl ⟨by omega, hs, by rw [hf, Int.toNat_natCast]; exact hc.1, by rw [hf, Int.toNat_natCast]; exact hc.2⟩))
      · rw [if_neg hc] at he
        exact absurd he ho
  · have hfk := Iv.fr_lt h.ok hr.2.1 hf
    have hk := hr.2.1
    by_cases ho : En s n f ≠ -1
    · exact h.growM hk (.inl (h.iv.pr3 k n f hr hf ho hs))
    · rw [h.tr.e n f (by omega)] at he
      by_cases hc : rD s F f = true ∧ n = runC (J s f)
      · exact h.growM hk (.inr ⟨by omega, hs, by rw [hf, Int.toNat_natCast]; exact hc.1, by rw [hf, Int.toNat_natCast]; exact hc.2⟩)
      · rw [if_neg hc] at he
        exact absurd he ho
  · rw [h.tr.un]
    rcases h.hz with rfl | ⟨u, rfl, hu, hne⟩
    · rw [if_pos rfl]; exact .inl rfl
    · rw [if_neg (by omega), Int.toNat_natCast]
      by_cases hd : runD (M s u) = true
      · rw [if_pos hd]; exact .inl rfl
      · rw [if_neg hd]
        refine .inr ⟨u, rfl, hu, ?_⟩
        obtain ⟨n0, f, p0, r, g1, g2, g3, g4, g5, g6, g7, g8, g9, g10, -⟩ := h.iv.headM hu hne
        rw [h.tr.m u hu, if_pos rfl, g1]
        have hl : 0 < p0.lf - 1 := by
          have : ¬ p0.lf = 1 := fun e => hd (g9.2 e)
          omega
        rw [show runQ (p0 :: r) = { p0 with lf := p0.lf - 1 } :: r from if_pos hl]
        simp

/-- A chain comes. -/
theorem Iv.comes (hok : PsOk l) (h : Iv l tk cs Cm now s) {n k0 : Nat} (hn : n < cs.length) (hk : (cs.getD n ⟨0, 0⟩).k = (k0 : Int)) (hkl : k0 < l.length) (hf : fr l k0 = -1) (hc : ¬ Cm n) :
    Iv l tk cs (fun i => Cm i ∨ i = n) now (addJ l tk s k0 n now) ∧ (∀ k i, k < l.length → lfJ l tk (addJ l tk s k0 n now) k i = lfJ l tk s k i) ∧ (∀ k i, rlJ (addJ l tk s k0 n now) k i = true ↔ rlJ s k i = true ∨ (k = k0 ∧ i = n)) := by
  have hJ : ∀ k, J (addJ l tk s k0 n now) k = if k = k0 then J s k0 ++ [⟨n, now, wkF l tk k0 n⟩] else J s k := fun k => by
    unfold J addJ
    by_cases e : k = k0
    · subst e
      rw [if_pos rfl]
      exact getD_set_self (by rw [h.lj]; exact hkl)
    · rw [if_neg e]
      exact getD_set_other (fun g => e g.symm)
  have hM : ∀ k, M (addJ l tk s k0 n now) k = M s k := fun k => rfl
  have hE : ∀ i k, En (addJ l tk s k0 n now) i k = En s i k := fun i k => rfl
  have hno : rlJ s k0 n = false := by
    rw [← Bool.not_eq_true]
    intro hr
    exact hc ((h.rl k0 n hkl hr).2.1 hf)
  obtain ⟨hno1, hno2⟩ := rlJ_no.1 hno
  have hfnd : ∀ k i, fnd (J (addJ l tk s k0 n now) k) i = if k = k0 ∧ i = n then some ⟨n, now, wkF l tk k0 n⟩ else fnd (J s k) i := fun k i => by
    rw [hJ]
    by_cases e : k = k0
    · subst e
      rw [if_pos rfl, fnd_app]
      by_cases ei : i = n
      · subst ei
        rw [if_pos ⟨rfl, rfl⟩, hno1, fnd_hit (by dsimp only)]; rfl
      · rw [if_neg (fun g => ei g.2), fnd_miss (by dsimp only; omega)]
        exact Option.or_none
    · rw [if_neg e, if_neg (fun g => e g.1)]
  have hrl : ∀ k i, rlJ (addJ l tk s k0 n now) k i = true ↔ rlJ s k i = true ∨ (k = k0 ∧ i = n) := fun k i => by
    unfold rlJ
    rw [hfnd, hE]
    by_cases e : k = k0 ∧ i = n
    · rw [if_pos e]
      simp [e]
    · rw [if_neg e]
      simp [e]
  have hreal : Real l cs n k0 := ⟨hn, hkl, by rw [rt_self hf, hk]; omega⟩
  refine ⟨⟨by simp only [addJ, List.length_set]; exact h.lj, h.lm, h.le, h.er, h.ev, fun k hk2 p hp => ?_, fun k hk2 => ?_, fun k hk2 p hp => ?_, h.md, fun k i hk2 hr => ?_, fun k i hr hf2 hc2 => ?_, fun k i f hr hf2 he hs => ?_, fun k i f hr hf2 he hs => ?_, h.un⟩, fun k i hk2 => ?_, hrl⟩
  · rw [hJ] at hp
    by_cases e : k = k0
    · subst e
      rw [if_pos rfl, List.mem_append] at hp
      rcases hp with hp | hp
      · exact h.j k hk2 p hp
      · rw [List.mem_singleton.1 hp]
        exact ⟨n, rfl, hno2, (wkF_ok hok hkl n).1, Int.le_refl _⟩
    · rw [if_neg e] at hp
      exact h.j k hk2 p hp
  · rw [hJ]
    by_cases e : k = k0
    · subst e
      rw [if_pos rfl, List.pairwise_append]
      refine ⟨h.jd k hk2, List.pairwise_singleton _ _, fun a ha b hb => ?_⟩
      rw [List.mem_singleton.1 hb]
      exact fnd_none.1 hno1 a ha
    · rw [if_neg e]
      exact h.jd k hk2
  · obtain ⟨i, f, q1, q2, q3, q4, q5, q6, q7, q8⟩ := h.m k hk2 p hp
    refine ⟨i, f, q1, ?_, q3, q4, q5, q6, q7, q8⟩
    rw [hfnd, if_neg]
    · exact q2
    · rintro ⟨rfl, -⟩
      omega
  · rcases (hrl k i).1 hr with g | ⟨rfl, rfl⟩
    · obtain ⟨g1, g2, g3⟩ := h.rl k i hk2 g
      exact ⟨g1, fun e => .inl (g2 e), g3⟩
    · exact ⟨hreal, fun _ => .inr rfl, fun f e => by omega⟩
  · rcases hc2 with g | rfl
    · exact (hrl k i).2 (.inl (h.pr1 k i hr hf2 g))
    · have := hr.2.2
      rw [rt_self hf2, hk] at this
      exact (hrl k i).2 (.inr ⟨by omega, rfl⟩)
  · exact (hrl k i).2 (.inl (h.pr2 k i f hr hf2 he hs))
  · have := h.pr3 k i f hr hf2 he hs
    unfold rlM at this ⊢
    rw [Bool.or_eq_true] at this ⊢
    rcases this with g | g
    · exact .inl g
    · exact .inr ((hrl k i).2 (.inl g))
  · unfold lfJ
    rw [hfnd, hE]
    by_cases e : k = k0 ∧ i = n
    · obtain ⟨rfl, rfl⟩ := e
      rw [if_pos ⟨rfl, rfl⟩, hno1]
      show wkF l tk k i = if En s i k = -1 then _ else _
      rw [if_pos hno2]
    · rw [if_neg e]
theorem Iv.congr {Cm' : Nat → Prop} (h : Iv l tk cs Cm now s) (hc : ∀ n, n < cs.length → (Cm n ↔ Cm' n)) : Iv l tk cs Cm' now s :=
  ⟨h.lj, h.lm, h.le, h.er, h.ev, h.j, h.jd, h.m, h.md, fun k n hk hr => ⟨(h.rl k n hk hr).1, fun e => (hc n (h.rl k n hk hr).1.1).1 ((h.rl k n hk hr).2.1 e), (h.rl k n hk hr).2.2⟩, fun k n hr hf hcm => h.pr1 k n hr hf ((hc n hr.1).2 hcm), h.pr2, h.pr3, h.un⟩
end

/-- When coming n comes. -/
def at_ (cs : List Co) (n : Nat) : Int := (cs.getD n ⟨0, 0⟩).a
/-- Those that come at a time. -/
theorem come_iv {l : List Pa} {tk : List Int} {cs : List Co} {now : Int} (hok : PsOk l) (hcs : ∀ n, n < cs.length → ∃ k0 : Nat, (cs.getD n ⟨0, 0⟩).k = (k0 : Int) ∧ k0 < l.length ∧ fr l k0 = -1) :
    ∀ (ws : List Nat) (Cm : Nat → Prop) (s : Sc), Iv l tk cs Cm now s → ws.Pairwise (fun a b => at_ cs a ≤ at_ cs b) → ws.Nodup → (∀ n ∈ ws, n < cs.length ∧ now ≤ at_ cs n ∧ ¬ Cm n) →
      Iv l tk cs (fun n => Cm n ∨ (n ∈ ws ∧ at_ cs n = now)) now (comeF l tk cs now ws s).2 ∧ (∀ n, n ∈ (comeF l tk cs now ws s).1 ↔ n ∈ ws ∧ at_ cs n ≠ now) ∧ (comeF l tk cs now ws s).1.Pairwise (fun a b => at_ cs a ≤ at_ cs b) ∧ (comeF l tk cs now ws s).1.Nodup ∧
      (comeF l tk cs now ws s).2.ends = s.ends ∧ (comeF l tk cs now ws s).2.mail = s.mail ∧ (comeF l tk cs now ws s).2.un = s.un ∧ (∀ k i, k < l.length → lfJ l tk (comeF l tk cs now ws s).2 k i = lfJ l tk s k i) ∧ (∀ k i, rlJ s k i = true → rlJ (comeF l tk cs now ws s).2 k i = true) ∧ (∀ k i, k < l.length → se l k ≠ 0 → rlJ (comeF l tk cs now ws s).2 k i = rlJ s k i)
  | [], Cm, s, h, _, _, _ => ⟨h.congr (fun n _ => by simp), fun n => by simp [comeF], List.Pairwise.nil, List.nodup_nil, rfl, rfl, rfl, fun _ _ _ => rfl, fun _ _ g => g, fun _ _ _ _ => rfl⟩
  | n :: r, Cm, s, h, hs, hd, hw => by
    obtain ⟨h1, h2, h3⟩ := hw n List.mem_cons_self
    obtain ⟨k0, k1, k2, k3⟩ := hcs n h1
    obtain ⟨s1, s2⟩ := List.pairwise_cons.1 hs
    obtain ⟨d1, d2⟩ := List.nodup_cons.1 hd
    by_cases e : (cs.getD n ⟨0, 0⟩).a = now
    · have e0 : comeF l tk cs now (n :: r) s = comeF l tk cs now r (addJ l tk s k0 n now) := by
        show (if (cs.getD n ⟨0, 0⟩).a = now then _ else _) = _
        rw [if_pos e, k1, Int.toNat_natCast]
      rw [e0]
      obtain ⟨g1, g2, g3⟩ := h.comes hok h1 k1 k2 k3 h3
      obtain ⟨q1, q2, q3, q4, q5, q6, q7, q8, q9, q10⟩ := come_iv hok hcs r (fun i => Cm i ∨ i = n) _ g1 s2 d2 (fun i hi => by
        obtain ⟨b1, b2, b3⟩ := hw i (List.mem_cons_of_mem _ hi)
        refine ⟨b1, b2, ?_⟩
        rintro (b | rfl)
        · exact b3 b
        · exact d1 hi)
      refine ⟨q1.congr (fun i hi => ?_), fun i => ?_, q3, q4, q5, q6, q7, fun k i hk => (q8 k i hk).trans (g2 k i hk), fun k i hr => q9 k i ((g3 k i).2 (.inl hr)), fun k i hk hs => (q10 k i hk hs).trans ?_⟩
      · have en : at_ cs n = now := e
        rw [List.mem_cons]
        constructor
        · rintro ((a | rfl) | ⟨a1, a2⟩)
          · exact .inl a
          · exact .inr ⟨.inl rfl, en⟩
          · exact .inr ⟨.inr a1, a2⟩
        · rintro (a | ⟨rfl | a1, a2⟩)
          · exact .inl (.inl a)
          · exact .inl (.inr rfl)
          · exact .inr ⟨a1, a2⟩
      · rw [q2, List.mem_cons]
        have en : at_ cs n = now := e
        constructor
        · rintro ⟨a1, a2⟩; exact ⟨.inr a1, a2⟩
        · rintro ⟨rfl | a1, a2⟩
          · exact absurd en a2
          · exact ⟨a1, a2⟩
      · rw [Bool.eq_iff_iff, g3]
        constructor
        · rintro (a | ⟨rfl, -⟩)
          · exact a
          · rcases fr_at hok k2 with ⟨-, b⟩ | ⟨f, b, -⟩
            · exact absurd b hs
            · omega
        · exact fun a => .inl a
    · have e0 : comeF l tk cs now (n :: r) s = (n :: r, s) := by
        show (if (cs.getD n ⟨0, 0⟩).a = now then _ else _) = _
        rw [if_neg e]
      rw [e0]
      have hall : ∀ i ∈ n :: r, at_ cs i ≠ now := fun i hi => by
        have hn0 : at_ cs n ≠ now := e
        rcases List.mem_cons.1 hi with rfl | hi
        · exact hn0
        · have := s1 i hi
          omega
      exact ⟨h.congr (fun i _ => ⟨fun g => .inl g, fun g => g.elim id (fun g => absurd g.2 (hall i g.1))⟩), fun i => ⟨fun g => ⟨g, hall i g⟩, fun g => g.1⟩, hs, hd, rfl, rfl, rfl, fun _ _ _ => rfl, fun _ _ g => g, fun _ _ _ _ => rfl⟩
end Keep
end Go.Proofs.Ytccoobcggbbciam
namespace Go.Proofs.Ytccoobcggbbciam
open Go.ChangeShapes Go.WideShapes Go.ChangeAt Go.RowKit

/- Chapter 18, pure: how a play goes on, tick by tick. -/
namespace Keep
def Ss (l : List Pa) (tk : List Int) (cs : List Co) (ord : List Nat) (t : Nat) : Sc := (playTo l tk cs ord t).2
/-- The scene when those have come that come at t. -/
def Zs (l : List Pa) (tk : List Int) (cs : List Co) (ord : List Nat) (t : Nat) : Sc := (comeF l tk cs t (playTo l tk cs ord t).1 (playTo l tk cs ord t).2).2
structure Lg (l : List Pa) (cs : List Co) (ord : List Nat) : Prop where
  ok : PsOk l
  cs_ : ∀ n, n < cs.length → ∃ k0 : Nat, (cs.getD n ⟨0, 0⟩).k = (k0 : Int) ∧ k0 < l.length ∧ fr l k0 = -1
  a0 : ∀ n, n < cs.length → 0 ≤ at_ cs n
  mem : ∀ n, n ∈ ord ↔ n < cs.length
  srt : ord.Pairwise (fun a b => at_ cs a ≤ at_ cs b)
  nd : ord.Nodup

theorem scene_empty (n m k : Nat) : J (scene0 n m) k = [] ∧ M (scene0 n m) k = [] := by
  have : (List.replicate n ([] : List Pc)).getD k [] = [] := by
    rw [List.getD_eq_getElem?_getD, List.getElem?_replicate]
    split <;> rfl
  exact ⟨this, this⟩
theorem scene_ends (n m i k : Nat) : En (scene0 n m) i k = -1 := by
  unfold En scene0
  dsimp only
  by_cases hi : i < m
  · rw [show (List.replicate m (List.replicate n (-1 : Int))).getD i [] = List.replicate n (-1) by rw [List.getD_eq_getElem?_getD, List.getElem?_replicate, if_pos hi]; rfl]
    rw [List.getD_eq_getElem?_getD, List.getElem?_replicate]
    split <;> rfl
  · rw [getD_ge (a := List.replicate m (List.replicate n (-1 : Int))) (by simp; omega)]; rfl

section
variable {l : List Pa} {tk : List Int} {cs : List Co} {ord : List Nat}

theorem Lg.trace (h : Lg l cs ord) : ∀ t : Nat, Iv l tk cs (fun n => at_ cs n < (t : Int)) t (Ss l tk cs ord t) ∧ (∀ n, n ∈ (playTo l tk cs ord t).1 ↔ n < cs.length ∧ (t : Int) ≤ at_ cs n) ∧ (playTo l tk cs ord t).1.Pairwise (fun a b => at_ cs a ≤ at_ cs b) ∧ (playTo l tk cs ord t).1.Nodup ∧
    (Iv l tk cs (fun n => at_ cs n ≤ (t : Int)) t (Zs l tk cs ord t)) ∧ ∃ F : Nat → Bool, Tc l tk cs (fun n => at_ cs n ≤ (t : Int)) t F (sentF (Zs l tk cs ord t)) (Zs l tk cs ord t) (Ss l tk cs ord (t + 1)) ∧ (∀ j k, F j = true → F k = true → co l j = co l k → j = k) ∧ (∀ k, k < l.length → J (Zs l tk cs ord t) k ≠ [] → ∃ u, F u = true ∧ co l u = co l k ∧ (l.getD k paZ).p ≤ (l.getD u paZ).p) := by
  have key : ∀ t : Nat, Iv l tk cs (fun n => at_ cs n < (t : Int)) t (Ss l tk cs ord t) → (∀ n, n ∈ (playTo l tk cs ord t).1 ↔ n < cs.length ∧ (t : Int) ≤ at_ cs n) → (playTo l tk cs ord t).1.Pairwise (fun a b => at_ cs a ≤ at_ cs b) → (playTo l tk cs ord t).1.Nodup →
    (Iv l tk cs (fun n => at_ cs n ≤ (t : Int)) t (Zs l tk cs ord t)) ∧ ∃ F : Nat → Bool, Tc l tk cs (fun n => at_ cs n ≤ (t : Int)) t F (sentF (Zs l tk cs ord t)) (Zs l tk cs ord t) (Ss l tk cs ord (t + 1)) ∧ (∀ j k, F j = true → F k = true → co l j = co l k → j = k) ∧ (∀ k, k < l.length → J (Zs l tk cs ord t) k ≠ [] → ∃ u, F u = true ∧ co l u = co l k ∧ (l.getD k paZ).p ≤ (l.getD u paZ).p) := by
    intro t h1 h2 h3 h4
    obtain ⟨q1, -⟩ := come_iv (tk := tk) (now := (t : Int)) h.ok h.cs_ _ _ _ h1 h3 h4 (fun n hn => by
      have := (h2 n).1 hn
      exact ⟨this.1, this.2, by omega⟩)
    have hZ : Iv l tk cs (fun n => at_ cs n ≤ (t : Int)) t (Zs l tk cs ord t) := q1.congr (fun n hn => by
      rw [h2]
      constructor
      · rintro (g | g) <;> omega
      · intro g
        by_cases e : at_ cs n < (t : Int)
        · exact .inl e
        · exact .inr ⟨⟨hn, by omega⟩, by omega⟩)
    refine ⟨hZ, ?_⟩
    have hsz : sentF (Zs l tk cs ord t) = -1 ∨ ∃ u : Nat, sentF (Zs l tk cs ord t) = u ∧ u < l.length ∧ M (Zs l tk cs ord t) u ≠ [] := by
      unfold sentF
      by_cases hu : (Zs l tk cs ord t).un = -1
      · rw [if_pos hu]
        rcases firstM_at (Zs l tk cs ord t).mail 0 with g | ⟨u, g1, g2, g3⟩
        · exact .inl g
        · exact .inr ⟨u, by rw [g1, Nat.zero_add], by rw [← hZ.lm]; exact g2, g3⟩
      · rw [if_neg hu]
        exact hZ.un
    obtain ⟨F, f1, f2, f3, f4⟩ := tick_form (tk := tk) (now := (t : Int)) (s := Zs l tk cs ord t) h.ok hZ.lj hZ.lm (fun k hne => by
      have hk : k < l.length := by
        rcases Nat.lt_or_ge k l.length with g | g
        · exact g
        · exact absurd (getD_ge (by rw [hZ.lj]; exact g)) hne
      obtain ⟨n, p, r, -, -, g3, g4, -, -, -, -, g9⟩ := hZ.head hk hne
      have hr := (hZ.rl k n hk (by unfold rlJ; rw [g9]; rfl)).1.1
      rw [g3]
      exact ⟨by rw [hZ.le]; exact hr, hZ.er n hr⟩) hsz
    exact ⟨F, ⟨h.ok, hZ, f1, by omega, f2, hsz⟩, f3, f4⟩
  have base : ∀ t : Nat, Iv l tk cs (fun n => at_ cs n < (t : Int)) t (Ss l tk cs ord t) ∧ (∀ n, n ∈ (playTo l tk cs ord t).1 ↔ n < cs.length ∧ (t : Int) ≤ at_ cs n) ∧ (playTo l tk cs ord t).1.Pairwise (fun a b => at_ cs a ≤ at_ cs b) ∧ (playTo l tk cs ord t).1.Nodup := by
    intro t
    induction t with
    | zero =>
      have e1 : Ss l tk cs ord 0 = scene0 l.length cs.length := rfl
      have e2 : (playTo l tk cs ord 0).1 = ord := rfl
      rw [e1, e2]
      have hj := fun k => (scene_empty l.length cs.length k).1
      have hm := fun k => (scene_empty l.length cs.length k).2
      have he := scene_ends l.length cs.length
      have hr : ∀ k n, rlJ (scene0 l.length cs.length) k n = false := fun k n => rlJ_no.2 ⟨by rw [hj]; rfl, he n k⟩
      refine ⟨⟨by simp [scene0], by simp [scene0], by simp [scene0], fun n hn => ?_, fun n k => .inl (he n k), fun k _ p hp => ?_, fun k _ => ?_, fun k _ p hp => ?_, fun k _ => ?_, fun k n _ hq => ?_, fun k n hq _ hc => ?_, fun k n f _ _ hq => absurd (he n f) hq, fun k n f _ _ hq => absurd (he n f) hq, .inl rfl⟩, fun n => ?_, h.srt, h.nd⟩
      · show ((List.replicate cs.length (List.replicate l.length (-1 : Int))).getD n []).length = _
        rw [List.getD_eq_getElem?_getD, List.getElem?_replicate, if_pos hn]
        simp
      · rw [hj] at hp; cases hp
      · rw [hj]; exact List.Pairwise.nil
      · rw [hm] at hp; cases hp
      · rw [hm]; exact List.Pairwise.nil
      · rw [hr] at hq; cases hq
      · have := h.a0 n hq.1
        omega
      · rw [h.mem]
        exact ⟨fun g => ⟨g, h.a0 n g⟩, fun g => g.1⟩
    | succ t ih =>
      obtain ⟨h1, h2, h3, h4⟩ := ih
      obtain ⟨hZ, F, hT, -, -⟩ := key t h1 h2 h3 h4
      obtain ⟨-, q2, q3, q4, -⟩ := come_iv (tk := tk) (now := (t : Int)) h.ok h.cs_ _ _ _ h1 h3 h4 (fun n hn => by
        have := (h2 n).1 hn
        exact ⟨this.1, this.2, by omega⟩)
      have hn := hT.next
      rw [show ((t + 1 : Nat) : Int) = (t : Int) + 1 by omega]
      refine ⟨hn.congr (fun n _ => by omega), fun n => ?_, q3, q4⟩
      refine (q2 n).trans ?_
      rw [h2]
      omega
  intro t
  obtain ⟨h1, h2, h3, h4⟩ := base t
  exact ⟨h1, h2, h3, h4, key t h1 h2 h3 h4⟩

/-- What those that come change. -/
theorem Lg.link (h : Lg l cs ord) (t : Nat) : (Zs l tk cs ord t).ends = (Ss l tk cs ord t).ends ∧ (Zs l tk cs ord t).mail = (Ss l tk cs ord t).mail ∧ (Zs l tk cs ord t).un = (Ss l tk cs ord t).un ∧ (∀ k i, k < l.length → lfJ l tk (Zs l tk cs ord t) k i = lfJ l tk (Ss l tk cs ord t) k i) ∧ (∀ k i, rlJ (Ss l tk cs ord t) k i = true → rlJ (Zs l tk cs ord t) k i = true) ∧ (∀ k i, k < l.length → se l k ≠ 0 → rlJ (Zs l tk cs ord t) k i = rlJ (Ss l tk cs ord t) k i) := by
  obtain ⟨h1, h2, h3, h4, -⟩ := h.trace (tk := tk) t
  obtain ⟨-, -, -, -, q5, q6, q7, q8, q9, q10⟩ := come_iv (tk := tk) (now := (t : Int)) h.ok h.cs_ _ _ _ h1 h3 h4 (fun n hn => by
    have := (h2 n).1 hn
    exact ⟨this.1, this.2, by omega⟩)
  exact ⟨q5, q6, q7, q8, q9, q10⟩

def LJ (l : List Pa) (tk : List Int) (cs : List Co) (ord : List Nat) (t k n : Nat) : Int := lfJ l tk (Zs l tk cs ord t) k n
def RJ (l : List Pa) (tk : List Int) (cs : List Co) (ord : List Nat) (t k n : Nat) : Bool := rlJ (Zs l tk cs ord t) k n
def LM (l : List Pa) (tk : List Int) (cs : List Co) (ord : List Nat) (t k n : Nat) : Int := lfM l (Zs l tk cs ord t) k n
def RM (l : List Pa) (tk : List Int) (cs : List Co) (ord : List Nat) (t k n : Nat) : Bool := rlM (Zs l tk cs ord t) k n
def Dn (l : List Pa) (tk : List Int) (cs : List Co) (ord : List Nat) (t k n : Nat) : Prop := En (Zs l tk cs ord t) n k ≠ -1

theorem Lg.en (h : Lg l cs ord) (t n k : Nat) : En (Zs l tk cs ord t) n k = En (Ss l tk cs ord t) n k := by
  unfold En
  rw [(h.link t).1]
theorem Lg.mm (h : Lg l cs ord) (t k : Nat) : M (Zs l tk cs ord t) k = M (Ss l tk cs ord t) k := by
  unfold M
  rw [(h.link t).2.1]

theorem Lg.rj_up1 (h : Lg l cs ord) {t k n : Nat} (hk : k < l.length) (hr : RJ l tk cs ord t k n = true) : RJ l tk cs ord (t + 1) k n = true := by
  obtain ⟨-, -, -, -, -, F, hT, -⟩ := h.trace (tk := tk) t
  exact (h.link (t + 1)).2.2.2.2.1 k n ((hT.grow hk).2 (.inl hr))
theorem Lg.rm_up1 (h : Lg l cs ord) {t k n : Nat} (hk : k < l.length) (hr : RM l tk cs ord t k n = true) : RM l tk cs ord (t + 1) k n = true := by
  obtain ⟨-, -, -, -, -, F, hT, -⟩ := h.trace (tk := tk) t
  have := hT.growM hk (.inl hr)
  unfold RM
  unfold rlM at this ⊢
  rw [Bool.or_eq_true] at this ⊢
  rw [h.mm]
  exact this.elim .inl (fun g => .inr ((h.link (t + 1)).2.2.2.2.1 k n g))
theorem Lg.dn_up1 (h : Lg l cs ord) {t k n : Nat} (hk : k < l.length) (hr : Dn l tk cs ord t k n) : Dn l tk cs ord (t + 1) k n ∧ En (Zs l tk cs ord (t + 1)) n k = En (Zs l tk cs ord t) n k := by
  obtain ⟨-, -, -, -, -, F, hT, -⟩ := h.trace (tk := tk) t
  have := hT.ends hk hr
  unfold Dn
  rw [h.en (t + 1), this]
  exact ⟨hr, rfl⟩
theorem Lg.rj_up (h : Lg l cs ord) {t k n : Nat} (hk : k < l.length) (hr : RJ l tk cs ord t k n = true) : ∀ d, RJ l tk cs ord (t + d) k n = true
  | 0 => hr
  | d + 1 => h.rj_up1 hk (h.rj_up hk hr d)
theorem Lg.rm_up (h : Lg l cs ord) {t k n : Nat} (hk : k < l.length) (hr : RM l tk cs ord t k n = true) : ∀ d, RM l tk cs ord (t + d) k n = true
  | 0 => hr
  | d + 1 => h.rm_up1 hk (h.rm_up hk hr d)
theorem Lg.dn_up (h : Lg l cs ord) {t k n : Nat} (hk : k < l.length) (hr : Dn l tk cs ord t k n) : ∀ d, Dn l tk cs ord (t + d) k n ∧ En (Zs l tk cs ord (t + d)) n k = En (Zs l tk cs ord t) n k
  | 0 => ⟨hr, rfl⟩
  | d + 1 => by
    obtain ⟨h1, h2⟩ := h.dn_up hk hr d
    obtain ⟨h3, h4⟩ := h.dn_up1 hk h1
    exact ⟨h3, h4.trans h2⟩
theorem Lg.rj_le (h : Lg l cs ord) {t u k n : Nat} (hk : k < l.length) (htu : t ≤ u) (hr : RJ l tk cs ord t k n = true) : RJ l tk cs ord u k n = true := by
  have := h.rj_up hk hr (u - t)
  rwa [show t + (u - t) = u by omega] at this
theorem Lg.rm_le (h : Lg l cs ord) {t u k n : Nat} (hk : k < l.length) (htu : t ≤ u) (hr : RM l tk cs ord t k n = true) : RM l tk cs ord u k n = true := by
  have := h.rm_up hk hr (u - t)
  rwa [show t + (u - t) = u by omega] at this

theorem Lg.zero (h : Lg l cs ord) (k n : Nat) (hk : k < l.length) : LJ l tk cs ord 0 k n = wkF l tk k n ∧ (se l k ≠ 0 → LM l tk cs ord 0 k n = se l k) := by
  have e1 : Ss l tk cs ord 0 = scene0 l.length cs.length := rfl
  have hj := (scene_empty l.length cs.length k).1
  have hm := (scene_empty l.length cs.length k).2
  have he := scene_ends l.length cs.length n k
  constructor
  · unfold LJ
    rw [(h.link 0).2.2.2.1 k n hk, e1]
    unfold lfJ
    rw [hj, he]; rfl
  · intro hs
    unfold LM lfM
    rw [h.mm, (h.link 0).2.2.2.2.2 k n hk hs, e1, hm, rlJ_no.2 ⟨by rw [hj]; rfl, he⟩]; rfl

/-- What is left: between nothing and all; nothing just where it was done; all where it isn't there yet. -/
theorem Lg.lj (h : Lg l cs ord) (t k n : Nat) (hk : k < l.length) : 0 ≤ LJ l tk cs ord t k n ∧ (LJ l tk cs ord t k n = 0 ↔ Dn l tk cs ord t k n) ∧ (RJ l tk cs ord t k n = false → LJ l tk cs ord t k n = wkF l tk k n) := by
  obtain ⟨-, -, -, -, hZ, -⟩ := h.trace (tk := tk) t
  have hw := wkF_ok (tk := tk) h.ok hk n
  unfold LJ RJ Dn lfJ rlJ
  cases e : fnd (J (Zs l tk cs ord t) k) n with
  | some p =>
    obtain ⟨h1, h2⟩ := fnd_some e
    obtain ⟨n', g1, g2, g3, g4⟩ := hZ.j k hk p h1
    have : n' = n := by omega
    subst this
    dsimp only
    refine ⟨by omega, ⟨fun g => by omega, fun g => absurd g2 g⟩, fun g => by cases g⟩
  | none =>
    dsimp only
    by_cases he : En (Zs l tk cs ord t) n k = -1
    · rw [if_pos he]
      exact ⟨by omega, ⟨fun g => by omega, fun g => absurd he g⟩, fun _ => rfl⟩
    · rw [if_neg he]
      exact ⟨by omega, ⟨fun _ => he, fun _ => rfl⟩, fun g => by rw [decide_eq_true he] at g; cases g⟩
theorem Lg.lm (h : Lg l cs ord) (t k n : Nat) (hk : k < l.length) (hs : se l k ≠ 0) : 0 ≤ LM l tk cs ord t k n ∧ (LM l tk cs ord t k n = 0 → RJ l tk cs ord t k n = true) ∧ (RM l tk cs ord t k n = true → LM l tk cs ord t k n ≠ 0 → ∃ p ∈ M (Zs l tk cs ord t) k, p.cm = (n : Int)) := by
  obtain ⟨-, -, -, -, hZ, -⟩ := h.trace (tk := tk) t
  have hs0 := Iv.se0 h.ok hk
  unfold LM RM RJ lfM rlM
  cases e : fnd (M (Zs l tk cs ord t) k) n with
  | some p =>
    obtain ⟨h1, h2⟩ := fnd_some e
    obtain ⟨n', f, g1, g2, g3, g4, g5, -⟩ := hZ.m k hk p h1
    dsimp only
    exact ⟨by omega, fun g => by omega, fun _ _ => ⟨p, h1, h2⟩⟩
  | none =>
    dsimp only
    by_cases he : rlJ (Zs l tk cs ord t) k n = true
    · rw [if_pos he]
      exact ⟨by omega, fun _ => he, fun _ g => absurd rfl g⟩
    · rw [if_neg he]
      refine ⟨by omega, fun g => absurd g hs, fun g => ?_⟩
      rw [Bool.not_eq_true] at he
      rw [he] at g
      cases g

theorem Lg.rj_real (h : Lg l cs ord) {t k n : Nat} (hk : k < l.length) (hr : RJ l tk cs ord t k n = true) : Real l cs n k ∧ (fr l k = -1 → at_ cs n ≤ (t : Int)) ∧ ∀ f : Nat, fr l k = f → Dn l tk cs ord t f n := by
  obtain ⟨-, -, -, -, hZ, -⟩ := h.trace (tk := tk) t
  exact hZ.rl k n hk hr
theorem Lg.rm_real (h : Lg l cs ord) {t k n : Nat} (hk : k < l.length) (hs : se l k ≠ 0) (hr : RM l tk cs ord t k n = true) : ∃ f : Nat, fr l k = f ∧ f < k ∧ Real l cs n k ∧ Dn l tk cs ord t f n := by
  obtain ⟨-, -, -, -, hZ, -⟩ := h.trace (tk := tk) t
  rcases fr_at h.ok hk with ⟨-, g⟩ | ⟨f, g1, g2, -⟩
  · exact absurd g hs
  · have hd : Dn l tk cs ord t f n := by
      unfold RM rlM at hr
      rw [Bool.or_eq_true] at hr
      rcases hr with hr | hr
      · cases e : fnd (M (Zs l tk cs ord t) k) n with
        | none => rw [e] at hr; cases hr
        | some p =>
          obtain ⟨b1, b2⟩ := fnd_some e
          obtain ⟨n', f', c1, -, -, -, -, -, c7, c8⟩ := hZ.m k hk p b1
          have : n' = n := by omega
          subst this
          have : f' = f := by omega
          subst this
          exact c8
      · exact (hZ.rl k n hk hr).2.2 f g1
    refine ⟨f, g1, g2, ?_, hd⟩
    have := (hZ.rl f n (by omega) (by unfold rlJ; rw [decide_eq_true (show En (Zs l tk cs ord t) n f ≠ -1 from hd), Bool.or_true])).1
    exact this.up h.ok hk g1
/-- What hangs on what is there as soon as that is done. -/
theorem Lg.hang (h : Lg l cs ord) {t k n : Nat} (hr : Real l cs n k) : (fr l k = -1 → at_ cs n ≤ (t : Int) → RJ l tk cs ord t k n = true) ∧ (∀ f : Nat, fr l k = f → Dn l tk cs ord t f n → (se l k = 0 → RJ l tk cs ord t k n = true) ∧ (se l k ≠ 0 → RM l tk cs ord t k n = true)) := by
  obtain ⟨-, -, -, -, hZ, -⟩ := h.trace (tk := tk) t
  exact ⟨fun e c => hZ.pr1 k n hr e c, fun f e d => ⟨fun hs => hZ.pr2 k n f hr e d hs, fun hs => hZ.pr3 k n f hr e d hs⟩⟩

/-- A tick on the cores. -/
theorem Lg.tick (h : Lg l cs ord) (t : Nat) : ∃ (F : Nat → Bool) (N : Nat → Nat), (∀ k n, k < l.length → LJ l tk cs ord (t + 1) k n = if F k = true ∧ n = N k then LJ l tk cs ord t k n - 1 else LJ l tk cs ord t k n) ∧
    (∀ k, F k = true → k < l.length ∧ RJ l tk cs ord t k (N k) = true ∧ 0 < LJ l tk cs ord t k (N k)) ∧ (∀ j k, F j = true → F k = true → co l j = co l k → j = k) ∧
    (∀ k n, k < l.length → RJ l tk cs ord t k n = true → LJ l tk cs ord t k n = 0 ∨ ∃ u, F u = true ∧ co l u = co l k ∧ (l.getD k paZ).p ≤ (l.getD u paZ).p) := by
  obtain ⟨-, -, -, -, hZ, F, hT, hu, hb⟩ := h.trace (tk := tk) t
  refine ⟨F, fun k => runC (J (Zs l tk cs ord t) k), fun k n hk => ?_, fun k hF => ?_, hu, fun k n hk hr => ?_⟩
  · unfold LJ
    rw [(h.link (t + 1)).2.2.2.1 k n hk, hT.left hk n]
  · obtain ⟨hk, hne⟩ := hT.hF k hF
    obtain ⟨n, p, r, -, -, g3, g4, g5, -, -, -, g9⟩ := hZ.head hk hne
    refine ⟨hk, ?_, ?_⟩
    · dsimp only
      unfold RJ rlJ
      rw [g3, g9]; rfl
    · dsimp only
      unfold LJ lfJ
      rw [g3, g9]
      dsimp only
      omega
  · by_cases hne : J (Zs l tk cs ord t) k = []
    · left
      unfold RJ rlJ at hr
      rw [hne] at hr
      have he : En (Zs l tk cs ord t) n k ≠ -1 := by
        intro e
        rw [decide_eq_false (by simpa using e)] at hr
        cases hr
      exact (h.lj t k n hk).2.1.2 he
    · exact .inr (hb k hk hne)

/-- The message that is under way. -/
def Wm (l : List Pa) (tk : List Int) (cs : List Co) (ord : List Nat) (t : Nat) : Option (Nat × Nat) := if sentF (Zs l tk cs ord t) = -1 then none else some ((sentF (Zs l tk cs ord t)).toNat, runC (M (Zs l tk cs ord t) (sentF (Zs l tk cs ord t)).toNat))

theorem firstM_none : ∀ (ms : List (List Pc)) (k : Nat), firstM ms k = -1 → ∀ j, ms.getD j [] = []
  | [], _, _, j => by simp
  | q :: r, k, h, j => by
    unfold firstM at h
    by_cases e : q = []
    · rw [if_neg (by simp [e])] at h
      cases j with
      | zero => simpa using e
      | succ j => simpa using firstM_none r (k + 1) h j
    · rw [if_pos e] at h
      omega
theorem firstM_least : ∀ (ms : List (List Pc)) (k u : Nat), firstM ms k = ((k + u : Nat) : Int) → ∀ j, j < u → ms.getD j [] = []
  | [], k, u, h, j, _ => by simp
  | q :: r, k, u, h, j, hj => by
    unfold firstM at h
    by_cases e : q = []
    · rw [if_neg (by simp [e])] at h
      cases u with
      | zero => omega
      | succ u =>
        cases j with
        | zero => simpa using e
        | succ j => simpa using firstM_least r (k + 1) u (by rw [h]; omega) j (by omega)
    · rw [if_pos e] at h
      omega

theorem Lg.mail_none (h : Lg l cs ord) {t : Nat} (hw : Wm l tk cs ord t = none) : ∀ k n, k < l.length → se l k ≠ 0 → LM l tk cs ord (t + 1) k n = LM l tk cs ord t k n ∧ (RM l tk cs ord t k n = true → LM l tk cs ord t k n = 0) := by
  obtain ⟨-, -, -, -, hZ, F, hT, -, -⟩ := h.trace (tk := tk) t
  have hz : sentF (Zs l tk cs ord t) = -1 := by
    unfold Wm at hw
    split at hw
    · assumption
    · cases hw
  intro k n hk hs
  constructor
  · have := hT.leftM hk hs n
    rw [hz, if_neg (by omega)] at this
    unfold LM
    rw [← this]
    unfold lfM
    rw [h.mm, (h.link (t + 1)).2.2.2.2.2 k n hk hs]
  · intro hr
    apply Classical.byContradiction
    intro hne
    obtain ⟨p, hp, -⟩ := (h.lm t k n hk hs).2.2 hr hne
    have hun : (Zs l tk cs ord t).un = -1 := by
      unfold sentF at hz
      split at hz
      · assumption
      · exact hz
    unfold sentF at hz
    rw [if_pos hun] at hz
    have := firstM_none _ _ hz k
    unfold M at hp
    rw [this] at hp
    cases hp
theorem Lg.mail_some (h : Lg l cs ord) {t k n : Nat} (hw : Wm l tk cs ord t = some (k, n)) : k < l.length ∧ se l k ≠ 0 ∧ RM l tk cs ord t k n = true ∧ 0 < LM l tk cs ord t k n ∧ sentF (Zs l tk cs ord t) = (k : Int) ∧ (∃ p r, M (Zs l tk cs ord t) k = p :: r ∧ p.cm = n ∧ LM l tk cs ord t k n = p.lf ∧ (∀ x ∈ r, x.cm ≠ (n : Int) ∧ p.si < x.si) ∧ (runD (M (Zs l tk cs ord t) k) = true ↔ p.lf = 1)) ∧
    ∀ k' n', k' < l.length → se l k' ≠ 0 → LM l tk cs ord (t + 1) k' n' = if k' = k ∧ n' = n then LM l tk cs ord t k' n' - 1 else LM l tk cs ord t k' n' := by
  obtain ⟨-, -, -, -, hZ, F, hT, -, -⟩ := h.trace (tk := tk) t
  unfold Wm at hw
  split at hw
  · cases hw
  next hz =>
  obtain ⟨e1, e2⟩ := Prod.mk.inj (Option.some.inj hw)
  rcases hT.hz with e | ⟨u, e, hu, hne⟩
  · exact absurd e hz
  have : u = k := by omega
  subst this
  rw [e, Int.toNat_natCast] at e2
  obtain ⟨n0, f, p, r, g1, g2, g3, g4, g5, g6, g7, g8, g9, g10, g11, -⟩ := hZ.headM hu hne
  have : n0 = n := by omega
  subst this
  have hl : LM l tk cs ord t u n0 = p.lf := by unfold LM lfM; rw [g10]
  refine ⟨hu, by omega, by unfold RM rlM; rw [g10]; rfl, by omega, e, ⟨p, r, g1, g2, hl, g8, g9⟩, fun k' n' hk' hs' => ?_⟩
  have := hT.leftM hk' hs' n'
  have hlk : LM l tk cs ord (t + 1) k' n' = lfM l (Ss l tk cs ord (t + 1)) k' n' := by
    unfold LM lfM
    rw [h.mm, (h.link (t + 1)).2.2.2.2.2 k' n' hk' hs']
  rw [hlk, this]
  by_cases hc : k' = u ∧ n' = n0
  · obtain ⟨rfl, rfl⟩ := hc
    rw [if_pos ⟨e, by omega⟩, if_pos ⟨rfl, rfl⟩]; rfl
  · rw [if_neg hc, if_neg]
    · rfl
    · rintro ⟨a1, a2⟩
      have : u = k' := by omega
      subst this
      exact hc ⟨rfl, by omega⟩
/-- What is under way goes on. -/
theorem Lg.mail_on (h : Lg l cs ord) {t k n : Nat} (hw : Wm l tk cs ord t = some (k, n)) : ((Zs l tk cs ord (t + 1)).un = -1 ∧ LM l tk cs ord t k n = 1) ∨ (Wm l tk cs ord (t + 1) = some (k, n) ∧ (Zs l tk cs ord (t + 1)).un = k) := by
  obtain ⟨-, -, -, -, hZ, F, hT, -, -⟩ := h.trace (tk := tk) t
  obtain ⟨hk, hs, -, -, hz, ⟨p, r, g1, g2, g3, g4, g5⟩, -⟩ := h.mail_some hw
  have hu := hT.tr.un
  rw [hz, if_neg (by omega), Int.toNat_natCast] at hu
  have hm := hT.tr.m k hk
  rw [hz, if_pos rfl] at hm
  by_cases hd : runD (M (Zs l tk cs ord t) k) = true
  · rw [if_pos hd] at hu
    exact .inl ⟨(h.link (t + 1)).2.2.1.trans hu, by rw [g3]; exact g5.1 hd⟩
  · right
    rw [if_neg hd] at hu
    have hu' := (h.link (tk := tk) (t + 1)).2.2.1.trans hu
    refine ⟨?_, hu'⟩
    have hsz : sentF (Zs l tk cs ord (t + 1)) = (k : Int) := by
      unfold sentF
      rw [if_neg (by rw [hu']; omega)]
      exact hu'
    unfold Wm
    rw [if_neg (by omega), hsz, Int.toNat_natCast, h.mm, hm, g1]
    have hpos : 0 < p.lf - 1 := by
      have : ¬ p.lf = 1 := fun e => hd (g5.2 e)
      rw [g1] at hd
      apply Classical.byContradiction
      intro hc
      exact hd (by show (!decide (0 < p.lf - 1)) = true; rw [decide_eq_false hc]; rfl)
    rw [show runQ (p :: r) = { p with lf := p.lf - 1 } :: r from if_pos hpos]
    show some (k, p.cm.toNat) = _
    rw [g2]; rfl
theorem Lg.mail_un (h : Lg l cs ord) : ∀ (t k n : Nat), Wm l tk cs ord t = some (k, n) → (∀ u, t = u + 1 → Wm l tk cs ord u ≠ some (k, n)) → (Zs l tk cs ord t).un = -1
  | 0, k, n, _, _ => (h.link 0).2.2.1.trans rfl
  | t + 1, k, n, hw, hn => by
    have hno := hn t rfl
    cases e : Wm l tk cs ord t with
    | none =>
      obtain ⟨-, -, -, -, hZ, F, hT, -, -⟩ := h.trace (tk := tk) t
      have hz : sentF (Zs l tk cs ord t) = -1 := by
        unfold Wm at e
        split at e
        · assumption
        · cases e
      have hu := hT.tr.un
      rw [hz, if_pos rfl] at hu
      exact (h.link (t + 1)).2.2.1.trans hu
    | some y =>
      obtain ⟨k', n'⟩ := y
      rcases h.mail_on e with ⟨g, -⟩ | ⟨g, -⟩
      · exact g
      · rw [hw] at g
        have := Option.some.inj g
        rw [this] at hno
        exact absurd e hno
/-- Since when a message is there. -/
theorem Lg.since (h : Lg l cs ord) : ∀ (t k : Nat), k < l.length → ∀ p ∈ M (Zs l tk cs ord t) k, ∀ n : Nat, p.cm = (n : Int) → ∃ s : Nat, p.si = s ∧ s ≤ t ∧ RM l tk cs ord s k n = true ∧ ∀ s', s' < s → RM l tk cs ord s' k n = false
  | 0, k, hk, p, hp, n, hn => by
    rw [h.mm, show Ss l tk cs ord 0 = scene0 l.length cs.length from rfl, (scene_empty l.length cs.length k).2] at hp
    cases hp
  | t + 1, k, hk, p, hp, n, hn => by
    obtain ⟨-, -, -, -, hZ, F, hT, -, -⟩ := h.trace (tk := tk) t
    have hp' := hp
    rw [h.mm, hT.tr.m k hk, List.mem_append] at hp
    rcases hp with hp | hp
    · have hold : ∃ p0 ∈ M (Zs l tk cs ord t) k, p.cm = p0.cm ∧ p.si = p0.si := by
        split at hp
        · obtain ⟨p0, r, e1, e2⟩ := runQ_mem hp
          rcases e2 with ⟨rfl, -⟩ | e2
          · exact ⟨p0, by rw [e1]; exact List.mem_cons_self, rfl, rfl⟩
          · exact ⟨p, by rw [e1]; exact List.mem_cons_of_mem _ e2, rfl, rfl⟩
        · exact ⟨p, hp, rfl, rfl⟩
      obtain ⟨p0, a1, a2, a3⟩ := hold
      obtain ⟨s, b1, b2, b3, b4⟩ := h.since t k hk p0 a1 n (by omega)
      exact ⟨s, by omega, by omega, b3, b4⟩
    · obtain ⟨⟨c1, c2, c3⟩, rfl⟩ := mem_if hp
      dsimp only at hn
      have hnn : n = runC (J (Zs l tk cs ord t) (fr l k).toNat) := by omega
      obtain ⟨q1, q2, -, -⟩ := hT.hang hk c1 c3 hnn
      refine ⟨t + 1, by dsimp only; omega, Nat.le_refl _, ?_, fun s' hs' => ?_⟩
      · unfold RM rlM
        rw [fnd_isSome hp' (by dsimp only; omega)]; rfl
      · rw [← Bool.not_eq_true]
        intro hr
        have hr' := h.rm_le hk (show s' ≤ t by omega) hr
        have : RM l tk cs ord t k n = false := rlM_no.2 ⟨q2, q1⟩
        rw [this] at hr'
        cases hr'
/-- Who begins on the bus goes first of all that are there. -/
theorem Lg.mail_best (h : Lg l cs ord) {t k n : Nat} (hw : Wm l tk cs ord t = some (k, n)) (hn : ∀ u, t = u + 1 → Wm l tk cs ord u ≠ some (k, n)) {k' n' : Nat} (hk' : k' < l.length) (hs' : se l k' ≠ 0) (hr : RM l tk cs ord t k' n' = true) (hl : 0 < LM l tk cs ord t k' n') (hne : ¬ (k' = k ∧ n' = n)) :
    k < k' ∨ (k = k' ∧ ∃ s s' : Nat, s < s' ∧ s' ≤ t ∧ RM l tk cs ord s k n = true ∧ (∀ q, q < s → RM l tk cs ord q k n = false) ∧ RM l tk cs ord s' k' n' = true ∧ ∀ q, q < s' → RM l tk cs ord q k' n' = false) := by
  have hun := h.mail_un t k n hw hn
  obtain ⟨hk, hs, -, -, hz, ⟨p, r, g1, g2, g3, g4, g5⟩, -⟩ := h.mail_some hw
  obtain ⟨x, hx, hxn⟩ := (h.lm t k' n' hk' hs').2.2 hr (by omega)
  unfold sentF at hz
  rw [if_pos hun] at hz
  rcases Nat.lt_trichotomy k k' with e | e | e
  · exact .inl e
  · subst e
    right
    refine ⟨rfl, ?_⟩
    have hx2 := hx
    rw [g1] at hx2
    rcases List.mem_cons.1 hx2 with rfl | hx2
    · exact absurd ⟨rfl, by omega⟩ hne
    · obtain ⟨s, a1, a2, a3, a4⟩ := h.since t k hk p (by rw [g1]; exact List.mem_cons_self) n g2
      obtain ⟨s', b1, b2, b3, b4⟩ := h.since t k hk x hx n' hxn
      have := (g4 x hx2).2
      exact ⟨s, s', by omega, b2, a3, a4, b3, b4⟩
  · have := firstM_least (Zs l tk cs ord t).mail 0 k (by rw [hz, Nat.zero_add]) k' e
    unfold M at hx
    rw [this] at hx
    cases hx
end
end Keep
end Go.Proofs.Ytccoobcggbbciam
