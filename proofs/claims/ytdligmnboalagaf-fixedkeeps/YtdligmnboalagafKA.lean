import Derived.Test.YtdligmnboalagafKF
import Derived.Test.YtdligmnboalagafSPX
import Derived.Test.YtdligmnboalagafJJ
import Derived.Test.YtdligmnboalagafXE
namespace Go.Proofs.Ytdligmnboalagaf
open Go.ChangeShapes Go.WideShapes Go.ChangeAt Go.RowKit

/- How jobs are played, as a run. -/
theorem plays_seq {l : List Jb} {pol : Int} {pre : Bool} : ∀ (t : Nat) (s : S8.St), S8.Plays l pol pre t s → ∃ f : Nat → S8.St, f t = s ∧ (∀ u, u ≤ t → S8.Plays l pol pre u (f u)) ∧ ∀ u, u < t → ∃ b, S8.Pick l pol pre u (f u) b ∧ f (u + 1) = (f u).after u b
  | 0, s, h => ⟨fun _ => s, rfl, fun u hu => by rw [show u = 0 by omega]; exact h, fun u hu => by omega⟩
  | t + 1, s, h => by
    obtain ⟨s0, b, h1, h2, h3⟩ := id h
    obtain ⟨f, e, hp, hs⟩ := plays_seq t s0 h1
    refine ⟨fun u => if u ≤ t then f u else s, by dsimp only; rw [if_neg (by omega)], fun u hu => ?_, fun u hu => ?_⟩
    · dsimp only
      by_cases hc : u ≤ t
      · rw [if_pos hc]; exact hp u hc
      · rw [if_neg hc, show u = t + 1 by omega]; exact h
    · dsimp only
      by_cases hc : u + 1 ≤ t
      · rw [if_pos hc, if_pos (show u ≤ t by omega)]
        exact hs u (by omega)
      · have hu' : u = t := by omega
        subst hu'
        rw [if_neg hc, if_pos (Nat.le_refl u), e]
        exact ⟨b, h2, h3⟩

theorem after_some {s : S8.St} {t i : Nat} : s.after t (i : Int) = ⟨s.left.set i (S8.L s.left i - 1), if S8.L s.left i - 1 = 0 then s.ends.set i ((t : Int) + 1) else s.ends, s.runs ++ [(i : Int)]⟩ := by
  unfold S8.St.after
  rw [if_neg (by omega), Int.toNat_natCast]

theorem run_of {js : List Jb} {N : Nat} {f : Nat → S8.St} (hok : ∀ x ∈ js, S8.okJ x) (hp : ∀ u, u ≤ N → S8.Plays js 1 true u (f u)) (hs : ∀ u, u < N → ∃ b, S8.Pick js 1 true u (f u) b ∧ f (u + 1) = (f u).after u b) (P0 : Int) :
    FK.Run js.length N (fun i => (S8.J js i).a) (fun i => (S8.J js i).c) (fun i => P0 ≤ (S8.J js i).p) (fun t i => S8.L (f t).left i) := by
  have hO : ∀ u, u ≤ N → S8.Ok js u (f u) := fun u hu => S8.plays_ok hok u _ (hp u hu)
  have hJ : ∀ i, i < js.length → S8.okJ (S8.J js i) ∧ js[i]? = some (S8.J js i) := fun i hi => by
    have e : js[i]? = some (S8.J js i) := by unfold S8.J; rw [List.getD_eq_getElem?_getD]; simp [hi]
    exact ⟨hok _ (List.mem_of_getElem? e), e⟩
  refine ⟨fun i hi => (hJ i hi).1.1, fun i hi => ?_, fun t i ht hi => (hO t ht).nneg i, fun t ht => ?_⟩
  · have h0 : f 0 = S8.St.init js := hp 0 (Nat.zero_le _)
    show S8.L (f 0).left i = _
    rw [h0]
    unfold S8.L S8.St.init
    dsimp only
    rw [List.getD_eq_getElem?_getD, List.getElem?_map, (hJ i hi).2]
    rfl
  · obtain ⟨b, hb, he⟩ := hs t ht
    have hn := (hO t (by omega)).nneg
    have hl := (hO t (by omega)).left
    rcases hb with ⟨h, -⟩ | ⟨-, hb⟩
    · cases h
    rcases hb with ⟨rfl, hb⟩ | ⟨k, rfl, hk, h1, h2, h3⟩
    · refine .inl ⟨fun i hi => ?_, fun i hi _ hr => ?_⟩
      · show S8.L (f (t + 1)).left i = _
        rw [he]; rfl
      · have := hb i hi
        have := hn i
        show S8.L (f t).left i = 0
        omega
    · have hL : ∀ j, S8.L (f (t + 1)).left j = if j = k then S8.L (f t).left k - 1 else S8.L (f t).left j := fun j => by
        rw [he, after_some]
        exact S8.L_set (by rw [hl]; exact hk)
      refine .inr ⟨k, hk, h1, h2, ?_, fun i hi hne => ?_, ?_⟩
      · show S8.L (f (t + 1)).left k = _
        rw [hL, if_pos rfl]
      · show S8.L (f (t + 1)).left i = _
        rw [hL, if_neg hne]
      · by_cases hH : P0 ≤ (S8.J js k).p
        · exact .inl hH
        · refine .inr fun i hi hHi hr => ?_
          apply Classical.byContradiction
          intro hne
          have hpos : 0 < S8.L (f t).left i := by have := hn i; have : ¬ S8.L (f t).left i = 0 := hne; omega
          have hik : i ≠ k := fun e => by subst e; exact hH hHi
          have := h3 i hi hr hpos hik
          unfold S8.lexJ S8.lex S8.key at this
          simp only [if_true] at this
          have hHi' : P0 ≤ (S8.J js i).p := hHi
          omega

theorem ends_of {js : List Jb} {N : Nat} {f : Nat → S8.St} (hok : ∀ x ∈ js, S8.okJ x) (hp : ∀ u, u ≤ N → S8.Plays js 1 true u (f u)) (hs : ∀ u, u < N → ∃ b, S8.Pick js 1 true u (f u) b ∧ f (u + 1) = (f u).after u b) :
    ∀ u, u ≤ N → ∀ i, i < js.length → ∀ q, q ≤ u → S8.L (f q).left i = 0 → ∃ e, (f u).ends[i]? = some e ∧ 1 ≤ e ∧ e ≤ (q : Int) := by
  have R := run_of hok hp hs 0
  intro u
  induction u with
  | zero =>
    intro _ i hi q hq hz
    rw [show q = 0 by omega] at hz
    have h1 := R.init i hi
    have e : js[i]? = some (S8.J js i) := by unfold S8.J; rw [List.getD_eq_getElem?_getD]; simp [hi]
    have h2 := (hok _ (List.mem_of_getElem? e)).2.2.1
    have h3 : S8.L (f 0).left i = (S8.J js i).c := h1
    omega
  | succ u ih =>
    intro hu i hi q hq hz
    obtain ⟨b, hb, he⟩ := hs u (by omega)
    have hO := S8.plays_ok hok u _ (hp u (by omega))
    have hpick := S8.pick_rng hO hb
    by_cases hzu : S8.L (f u).left i = 0
    · have hq' : ∃ q', q' ≤ u ∧ q' ≤ q ∧ S8.L (f q').left i = 0 := by
        by_cases hqu : q ≤ u
        · exact ⟨q, hqu, Nat.le_refl _, hz⟩
        · exact ⟨u, Nat.le_refl _, by omega, hzu⟩
      obtain ⟨q', g1, g2, g3⟩ := hq'
      obtain ⟨e, h1, h2, h3⟩ := ih (by omega) i hi q' g1 g3
      refine ⟨e, ?_, h2, by omega⟩
      rw [he]
      rcases hpick with rfl | ⟨k, rfl, hk, hpos⟩
      · exact h1
      · rw [after_some]
        have hne : k ≠ i := fun e => by subst e; omega
        show (if S8.L (f u).left k - 1 = 0 then (f u).ends.set k ((u : Int) + 1) else (f u).ends)[i]? = some e
        split
        · rw [List.getElem?_set_ne hne]; exact h1
        · exact h1
    · have hqu : q = u + 1 := by
        apply Classical.byContradiction
        intro hne
        exact hzu (R.zero (t := q) (u := u) hi hz (by omega) (by omega))
      subst hqu
      rw [he] at hz ⊢
      rcases hpick with rfl | ⟨k, rfl, hk, hpos⟩
      · exact absurd hz hzu
      · rw [after_some] at hz ⊢
        dsimp only at hz ⊢
        rw [S8.L_set (by rw [hO.left]; exact hk)] at hz
        by_cases hik : i = k
        · subst hik
          rw [if_pos rfl] at hz
          rw [if_pos hz]
          refine ⟨(u : Int) + 1, ?_, by omega, by omega⟩
          rw [List.getElem?_set_self (by rw [hO.ends]; exact hk)]
        · rw [if_neg hik] at hz
          exact absurd hz hzu

/- The jobs of comings, one by one. -/
theorem jobsFrom_each {l : List Ta} : ∀ (cs : List Co) (acc : List Jb) (la tk : List Int) (i : Nat) (js : List Jb), la.length = cs.length → tk.length = cs.length → jobsFrom l acc cs la tk i = ((0, 0), js) →
    ∃ new : List Jb, js = acc ++ new ∧ new.length = cs.length ∧ ∀ (n : Nat) (c : Co), cs[n]? = some c → ∃ a b : Int, new[n]? = some (⟨c.k, c.a + a, b, c.a + (l.getD c.k.toNat ta0).d, (l.getD c.k.toNat ta0).p⟩ : Jb) ∧ 0 ≤ a ∧ a ≤ (l.getD c.k.toNat ta0).j ∧ 1 ≤ b ∧ b ≤ (l.getD c.k.toNat ta0).c
  | [], acc, la, tk, i, js, h1, h2, h => by
    rw [jobsFrom_end] at h
    refine ⟨[], ?_, rfl, fun n c hc => by simp at hc⟩
    simp at h
    simp [h]
  | c0 :: cs, acc, [], tk, i, js, h1, h2, h => by simp at h1
  | c0 :: cs, acc, a :: la, [], i, js, h1, h2, h => by simp at h2
  | c0 :: cs, acc, a :: la, b :: tk, i, js, h1, h2, h => by
    rw [jobsFrom] at h
    unfold jobOne at h
    by_cases hc : a < 0 ∨ (l.getD c0.k.toNat ta0).j < a ∨ b < 1 ∨ (l.getD c0.k.toNat ta0).c < b
    · rw [if_pos hc] at h
      simp at h
    · rw [if_neg hc] at h
      obtain ⟨new, g1, g2, g3⟩ := jobsFrom_each cs _ la tk (i + 1) js (by simpa using h1) (by simpa using h2) h
      refine ⟨_ :: new, by rw [g1, List.append_assoc]; rfl, by simp [g2], fun n c hn => ?_⟩
      cases n with
      | zero =>
        simp at hn
        subst hn
        exact ⟨a, b, rfl, by omega, by omega, by omega, by omega⟩
      | succ n => simpa using g3 n c (by simpa using hn)

theorem jobsF_ok {l : List Ta} {cs : List Co} {la tk : List Int} {js : List Jb} (h : jobsF l cs la tk = ((0, 0), js)) : (legF l cs).1 = 0 ∧ js.length = cs.length ∧ ∀ (n : Nat) (c : Co), cs[n]? = some c → ∃ a b : Int, js[n]? = some (⟨c.k, c.a + a, b, c.a + (l.getD c.k.toNat ta0).d, (l.getD c.k.toNat ta0).p⟩ : Jb) ∧ 0 ≤ a ∧ a ≤ (l.getD c.k.toNat ta0).j ∧ 1 ≤ b ∧ b ≤ (l.getD c.k.toNat ta0).c := by
  unfold jobsF at h
  by_cases h0 : (legF l cs).1 ≠ 0
  · rw [if_pos h0] at h
    simp at h
    exact absurd (by rw [h.1]) h0
  · rw [if_neg h0] at h
    by_cases h1 : la.length ≠ cs.length ∨ tk.length ≠ cs.length
    · rw [if_pos h1] at h; simp at h
    · rw [if_neg h1] at h
      obtain ⟨new, g1, g2, g3⟩ := jobsFrom_each cs [] la tk 0 js (by omega) (by omega) h
      rw [List.nil_append] at g1
      subst g1
      exact ⟨by omega, g2, g3⟩

theorem soonOf_cons2 {l : List Ta} {past : List Co} {c : Co} {k : Int} : soonOf l (c :: past) k = if c.k = k then c.a + (l.getD k.toNat ta0).t else soonOf l past k := by
  unfold soonOf lastOf
  rw [List.find?_cons]
  by_cases h : c.k = k
  · simp [h]
  · simp [h]

/-- Two comings of one task are T apart. -/
theorem leg_apart {l : List Ta} (hl : ∀ x ∈ l, stands x = true) : ∀ (r past : List Co) (i : Nat), (legFrom l past r i).1 = 0 → (∀ c ∈ past, c.a + (l.getD c.k.toNat ta0).t ≤ soonOf l past c.k) →
    (∀ c0 ∈ past, ∀ c ∈ r, c0.k = c.k → c0.a + (l.getD c.k.toNat ta0).t ≤ c.a) ∧ r.Pairwise (fun c0 c => c0.k = c.k → c0.a + (l.getD c.k.toNat ta0).t ≤ c.a)
  | [], _, _, _, _ => ⟨fun _ _ c hc => by simp at hc, List.Pairwise.nil⟩
  | x :: r, past, i, h, hp => by
    rw [legFrom] at h
    by_cases hx : legOne l past x = 0
    · rw [if_pos hx] at h
      have hr := legOne_ok hx
      have hs : soonOf l past x.k ≤ x.a := by
        unfold legOne at hx
        rw [if_neg (by omega), if_neg (by omega)] at hx
        apply Classical.byContradiction
        intro hc
        rw [if_pos (by omega)] at hx
        cases hx
      have hT : 1 ≤ (l.getD x.k.toNat ta0).t := (stands_t (stands_mem hl (k := x.k.toNat) (by omega))).1
      have hp' : ∀ c ∈ x :: past, c.a + (l.getD c.k.toNat ta0).t ≤ soonOf l (x :: past) c.k := fun c hc => by
        rw [soonOf_cons2]
        rcases List.mem_cons.1 hc with rfl | hc
        · rw [if_pos rfl]; exact Int.le_refl _
        · have h1 := hp c hc
          by_cases e : x.k = c.k
          · rw [if_pos e]
            rw [← e] at h1 ⊢
            omega
          · rw [if_neg e]; exact h1
      obtain ⟨g1, g2⟩ := leg_apart hl r (x :: past) (i + 1) h hp'
      refine ⟨fun c0 h0 c hc e => ?_, List.Pairwise.cons (fun c hc e => g1 x List.mem_cons_self c hc e) g2⟩
      rcases List.mem_cons.1 hc with rfl | hc
      · have := hp c0 h0
        rw [e] at this
        omega
      · exact g1 c0 (List.mem_cons_of_mem _ h0) c hc e
    · rw [if_neg hx] at h
      exact absurd h hx

theorem apart_of {l : List Ta} {cs : List Co} (h : (legF l cs).1 = 0) : ∀ (i j : Nat) (c c' : Co), i < j → cs[i]? = some c → cs[j]? = some c' → c.k = c'.k → c.a + (l.getD c'.k.toNat ta0).t ≤ c'.a := by
  have hk := legF_ok h
  have hl := (chkF_ok hk.1).2.2
  have h' : (legFrom l [] cs 0).1 = 0 := by
    unfold legF at h
    rw [if_neg (by have := hk.1; omega), if_neg (by have := hk.2.1; omega)] at h
    exact h
  have hp := (leg_apart hl cs [] 0 h' (fun c hc => by simp at hc)).2
  intro i j c c' hij hc hc' e
  rw [List.pairwise_iff_getElem] at hp
  obtain ⟨hi, rfl⟩ := List.getElem?_eq_some_iff.1 hc
  obtain ⟨hj, rfl⟩ := List.getElem?_eq_some_iff.1 hc'
  exact hp i j hi hj hij e

/- What is told. -/
theorem respsFrom_each {l : List Ta} : ∀ (bs : List Int) (k : Nat) (acc rs : List Int), respsFrom l bs k acc = (rs, (0, 0)) → ∃ new : List Int, rs = acc ++ new ∧ new.length = bs.length ∧ ∀ (n : Nat) (b : Int), bs[n]? = some b → new[n]? = some (respF l ((k + n : Nat) : Int) b).1 ∧ (respF l ((k + n : Nat) : Int) b).2.1 = 0
  | [], k, acc, rs, h => by
    unfold respsFrom at h
    simp at h
    exact ⟨[], by simp [h], rfl, fun n b hb => by simp at hb⟩
  | b0 :: r, k, acc, rs, h => by
    unfold respsFrom at h
    by_cases hz : (respF l (k : Int) b0).2.1 ≠ 0
    · rw [if_pos hz] at h
      simp at h
      exact absurd (by rw [h.2]) hz
    · rw [if_neg hz] at h
      obtain ⟨new, g1, g2, g3⟩ := respsFrom_each r (k + 1) _ rs h
      refine ⟨_ :: new, by rw [g1, List.append_assoc]; rfl, by simp [g2], fun n b hb => ?_⟩
      cases n with
      | zero =>
        simp at hb
        subst hb
        exact ⟨rfl, by simpa using hz⟩
      | succ n =>
        have := g3 n b (by simpa using hb)
        rw [show k + 1 + n = k + (n + 1) by omega] at this
        simpa using this

theorem sumO_sumN {A : Nat → Bool} {i : Nat} {w : Int} {l : List Ta} : ∀ (d k : Nat), k + d = l.length → FK.sumN l.length (fun k => if k ≠ i ∧ A k = true then up1 w (Tk l k) else 0) = FK.sumN k (fun k => if k ≠ i ∧ A k = true then up1 w (Tk l k) else 0) + sumO w (othF A i (l.drop k) k)
  | 0, k, h => by
    rw [show k = l.length by omega, List.drop_length]
    simp [othF, sumO]
  | d + 1, k, h => by
    obtain ⟨x, hx, hd⟩ := drop_at (l := l) (k := k) (by omega)
    rw [sumO_sumN d (k + 1) (by omega), othF_at hd]
    show FK.sumN k _ + (if k ≠ i ∧ A k = true then up1 w (Tk l k) else 0) + _ = _
    rw [Tk_at hx]
    by_cases hc : k ≠ i ∧ A k = true
    · rw [if_pos hc, if_pos hc, sumO]; omega
    · rw [if_neg hc, if_neg hc]; omega
end Go.Proofs.Ytdligmnboalagaf
