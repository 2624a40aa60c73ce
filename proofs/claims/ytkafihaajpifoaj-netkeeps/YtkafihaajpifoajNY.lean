import Derived.Test.YtkafihaajpifoajKP
import Derived.Test.YtkafihaajpifoajNP
namespace Go.Proofs.Ytkafihaajpifoaj
open Go.ChangeShapes Go.WideShapes Go.ChangeAt Go.RowKit

/- How jobs are played without being stopped, as a run. -/
theorem plays_seqN {l : List Jb} {pol : Int} {pre : Bool} : ∀ (t : Nat) (s : St), Plays l pol pre t s → ∃ f : Nat → St, f t = s ∧ (∀ u, u ≤ t → Plays l pol pre u (f u)) ∧ ∀ u, u < t → ∃ b, Pick l pol pre u (f u) b ∧ f (u + 1) = (f u).after u b
  | 0, s, h => ⟨fun _ => s, rfl, fun u hu => by rw [show u = 0 by omega]; exact h, fun u hu => by omega⟩
  | t + 1, s, h => by
    obtain ⟨s0, b, h1, h2, h3⟩ := id h
    obtain ⟨f, e, hp, hs⟩ := plays_seqN t s0 h1
    refine ⟨fun u => if u ≤ t then f u else s, by dsimp only; rw [if_neg (by omega)], fun u hu => ?_, fun u hu => ?_⟩
    · dsimp only
      by_cases hc : u ≤ t
      · rw [if_pos hc]; exact hp u hc
      · rw [if_neg hc, show u = t + 1 by omega]; exact h
    · dsimp only
      by_cases hc : u + 1 ≤ t
      · rw [if_pos hc, if_pos (show u ≤ t by omega)]
        exact hs u (by omega)
      · have hu' : u = t := by omega
        subst hu'
        rw [if_neg hc, if_pos (Nat.le_refl u), e]
        exact ⟨b, h2, h3⟩
theorem after_someN {s : St} {t i : Nat} : s.after t (i : Int) = ⟨s.left.set i (L s.left i - 1), if L s.left i - 1 = 0 then s.ends.set i ((t : Int) + 1) else s.ends, s.runs ++ [(i : Int)]⟩ := by
  unfold St.after
  rw [if_neg (by omega), Int.toNat_natCast]
theorem after_last {s : St} {t : Nat} {b : Int} (hb : b = -1 ∨ 0 ≤ b) : (s.after t b).last = b := by
  rcases hb with rfl | hb
  · exact last_snoc _ _ _ _
  · obtain ⟨i, rfl⟩ : ∃ i : Nat, b = (i : Int) := ⟨b.toNat, by omega⟩
    rw [after_someN]; exact last_snoc _ _ _ _
/-- Who runs. -/
def whoN (f : Nat → St) (t : Nat) : Option Nat := if (f (t + 1)).last < 0 then none else some (f (t + 1)).last.toNat

theorem J_get {js : List Jb} {i : Nat} (hi : i < js.length) : js[i]? = some (J js i) := by unfold J; rw [List.getD_eq_getElem?_getD]; simp [hi]

theorem nrun_of {js : List Jb} {N : Nat} {f : Nat → St} (hok : ∀ x ∈ js, okJ x) (hp : ∀ u, u ≤ N → Plays js 1 false u (f u)) (hs : ∀ u, u < N → ∃ b, Pick js 1 false u (f u) b ∧ f (u + 1) = (f u).after u b) :
    NK.Run js.length N (fun i => (J js i).a) (fun i => (J js i).c) (lexJ 1 js) (fun t i => L (f t).left i) (whoN f) := by
  have hO : ∀ u, u ≤ N → Ok js u (f u) := fun u hu => plays_ok hok u _ (hp u hu)
  have hJ : ∀ i, i < js.length → okJ (J js i) := fun i hi => hok _ (List.mem_of_getElem? (J_get hi))
  have h00 : f 0 = St.init js := hp 0 (Nat.zero_le _)
  have hl0 : (f 0).last = -1 := by rw [h00]; rfl
  -- who is the one that was picked
  have hw : ∀ t, t < N → ∃ b, Pick js 1 false t (f t) b ∧ f (t + 1) = (f t).after t b ∧ (f (t + 1)).last = b ∧ ((b = -1 ∧ whoN f t = none) ∨ ∃ k : Nat, b = (k : Int) ∧ k < js.length ∧ 0 < L (f t).left k ∧ whoN f t = some k) := fun t ht => by
    obtain ⟨b, hb, he⟩ := hs t ht
    rcases pick_rng (hO t (by omega)) hb with rfl | ⟨k, rfl, hk, hpos⟩
    · have e := after_last (s := f t) (t := t) (b := -1) (.inl rfl)
      rw [← he] at e
      exact ⟨-1, hb, he, e, .inl ⟨rfl, by unfold whoN; rw [e, if_pos (by decide)]⟩⟩
    · have e := after_last (s := f t) (t := t) (b := (k : Int)) (.inr (by omega))
      rw [← he] at e
      exact ⟨(k : Int), hb, he, e, .inr ⟨k, rfl, hk, hpos, by unfold whoN; rw [e, if_neg (by omega), Int.toNat_natCast]⟩⟩
  have hsome : ∀ t k, t < N → whoN f t = some k → Pick js 1 false t (f t) (k : Int) ∧ f (t + 1) = (f t).after t (k : Int) ∧ (f (t + 1)).last = (k : Int) ∧ k < js.length ∧ 0 < L (f t).left k := fun t k ht hk => by
    obtain ⟨b, h1, h2, h3, h4⟩ := hw t ht
    rcases h4 with ⟨-, h4⟩ | ⟨k', rfl, h5, h6, h7⟩
    · rw [h4] at hk; cases hk
    · rw [h7] at hk; cases hk; exact ⟨h1, h2, h3, h5, h6⟩
  have hat : ∀ t k, t < N → whoN f t = some k → (J js k).a ≤ (t : Int) := by
    intro t
    induction t with
    | zero =>
      intro k ht hk
      obtain ⟨h1, -⟩ := hsome 0 k ht hk
      rcases h1 with ⟨-, ⟨g1, -⟩, -⟩ | ⟨-, hb⟩
      · rw [hl0] at g1; omega
      · rcases hb with ⟨e, -⟩ | ⟨i, e, -, g, -⟩
        · omega
        · have : k = i := by omega
          subst this; exact g
    | succ u ih =>
      intro k ht hk
      obtain ⟨h1, -⟩ := hsome (u + 1) k ht hk
      rcases h1 with ⟨-, -, g2⟩ | ⟨-, hb⟩
      · have := ih k (by omega) (by unfold whoN; rw [← g2, if_neg (by omega), Int.toNat_natCast])
        omega
      · rcases hb with ⟨e, -⟩ | ⟨i, e, -, g, -⟩
        · omega
        · have : k = i := by omega
          subst this; exact g
  refine ⟨fun i hi => (hJ i hi).1, fun i hi => (hJ i hi).2.2.1, fun i hi => ?_, fun t i ht hi => (hO t ht).nneg i, fun t ht hn => ?_, fun t k ht hk => ?_, fun t k ht hk hpos => ?_, fun t k ht hk hno j hj hr hpos hne => ?_⟩
  · show L (f 0).left i = _
    rw [h00]
    unfold L St.init
    dsimp only
    rw [List.getD_eq_getElem?_getD, List.getElem?_map, J_get hi]
    rfl
  · obtain ⟨b, h1, h2, h3, h4⟩ := hw t ht
    rcases h4 with ⟨rfl, -⟩ | ⟨k', -, -, -, h7⟩
    · refine ⟨fun i hi => ?_, fun i hi hr => ?_⟩
      · show L (f (t + 1)).left i = _
        rw [h2]; rfl
      · rcases h1 with ⟨-, ⟨g1, -⟩, g2⟩ | ⟨-, hb⟩
        · omega
        · rcases hb with ⟨-, hb⟩ | ⟨i', e, -⟩
          · have g := hb i hi
            have := (hO t (by omega)).nneg i
            show L (f t).left i = 0
            have hr' : (J js i).a ≤ (t : Int) := hr
            omega
          · omega
    · rw [h7] at hn; cases hn
  · obtain ⟨h1, h2, h3, h4, h5⟩ := hsome t k ht hk
    have hL : ∀ j, L (f (t + 1)).left j = if j = k then L (f t).left k - 1 else L (f t).left j := fun j => by
      rw [h2, after_someN]
      exact L_set (by rw [(hO t (by omega)).left]; exact h4)
    refine ⟨h4, hat t k ht hk, h5, ?_, fun i hi hne => ?_⟩
    · show L (f (t + 1)).left k = _
      rw [hL, if_pos rfl]
    · show L (f (t + 1)).left i = _
      rw [hL, if_neg hne]
  · obtain ⟨h1, h2, h3, h4, h5⟩ := hsome t k (by omega) hk
    obtain ⟨b, g1, g2, g3, g4⟩ := hw (t + 1) ht
    have hon : (f (t + 1)).on := ⟨by rw [h3]; omega, by rw [h3, Int.toNat_natCast]; exact hpos⟩
    rcases g1 with ⟨-, -, e⟩ | ⟨hn, -⟩
    · rw [h3] at e
      subst e
      rcases g4 with ⟨e, -⟩ | ⟨k', e, -, -, g7⟩
      · omega
      · have : k = k' := by omega
        rw [g7, this]
    · exact absurd ⟨rfl, hon⟩ hn
  · obtain ⟨h1, h2, h3, h4, h5⟩ := hsome t k ht hk
    rcases h1 with ⟨-, ⟨g1, -⟩, g2⟩ | ⟨-, hb⟩
    · exfalso
      cases t with
      | zero => rw [hl0] at g1; omega
      | succ u => exact hno u rfl (by unfold whoN; rw [← g2, if_neg (by omega), Int.toNat_natCast])
    · rcases hb with ⟨e, -⟩ | ⟨i, e, -, -, -, g⟩
      · omega
      · have : k = i := by omega
        subst this
        exact g j hj hr hpos hne

theorem ends_ofN {js : List Jb} {N : Nat} {f : Nat → St} (hok : ∀ x ∈ js, okJ x) (hp : ∀ u, u ≤ N → Plays js 1 false u (f u)) (hs : ∀ u, u < N → ∃ b, Pick js 1 false u (f u) b ∧ f (u + 1) = (f u).after u b) :
    ∀ u, u ≤ N → ∀ i, i < js.length → ∀ q, q ≤ u → L (f q).left i = 0 → ∃ e, (f u).ends[i]? = some e ∧ 1 ≤ e ∧ e ≤ (q : Int) := by
  have R := nrun_of hok hp hs
  intro u
  induction u with
  | zero =>
    intro _ i hi q hq hz
    rw [show q = 0 by omega] at hz
    have h1 := R.init i hi
    have h2 := R.x0 i hi
    have h3 : L (f 0).left i = (J js i).c := h1
    have h4 : 1 ≤ (J js i).c := h2
    omega
  | succ u ih =>
    intro hu i hi q hq hz
    obtain ⟨b, hb, he⟩ := hs u (by omega)
    have hO := plays_ok hok u _ (hp u (by omega))
    have hpick := pick_rng hO hb
    by_cases hzu : L (f u).left i = 0
    · have hq' : ∃ q', q' ≤ u ∧ q' ≤ q ∧ L (f q').left i = 0 := by
        by_cases hqu : q ≤ u
        · exact ⟨q, hqu, Nat.le_refl _, hz⟩
        · exact ⟨u, Nat.le_refl _, by omega, hzu⟩
      obtain ⟨q', g1, g2, g3⟩ := hq'
      obtain ⟨e, h1, h2, h3⟩ := ih (by omega) i hi q' g1 g3
      refine ⟨e, ?_, h2, by omega⟩
      rw [he]
      rcases hpick with rfl | ⟨k, rfl, hk, hpos⟩
      · exact h1
      · rw [after_someN]
        have hne : k ≠ i := fun e => by subst e; omega
        show (if L (f u).left k - 1 = 0 then (f u).ends.set k ((u : Int) + 1) else (f u).ends)[i]? = some e
        split
        · rw [List.getElem?_set_ne hne]; exact h1
        · exact h1
    · have hqu : q = u + 1 := by
        apply Classical.byContradiction
        intro hne
        exact hzu (R.zero (t := q) (u := u) hi hz (by omega) (by omega))
      subst hqu
      rw [he] at hz ⊢
      rcases hpick with rfl | ⟨k, rfl, hk, hpos⟩
      · exact absurd hz hzu
      · rw [after_someN] at hz ⊢
        dsimp only at hz ⊢
        rw [L_set (by rw [hO.left]; exact hk)] at hz
        by_cases hik : i = k
        · subst hik
          rw [if_pos rfl] at hz
          rw [if_pos hz]
          refine ⟨(u : Int) + 1, ?_, by omega, by omega⟩
          rw [List.getElem?_set_self (by rw [hO.ends]; exact hk)]
        · rw [if_neg hik] at hz
          exact absurd hz hzu
end Go.Proofs.Ytkafihaajpifoaj
