import Derived.Test.YtkafihaajpifoafAJ
import Derived.Test.YtkafihaajpifoafKR
namespace Go.Proofs.Ytkafihaajpifoaf
open Go.ChangeShapes Go.WideShapes Go.ChangeAt Go.RowKit

theorem responsesF_split {l : List Ta} {bs rs : List Int} (h : responsesF l bs = (rs, (0, 0))) : (chkX l).1 = 0 ∧ bs.length = l.length ∧ respsFrom l bs 0 [] = (rs, (0, 0)) := by
  unfold responsesF at h
  by_cases h0 : (chkX l).1 ≠ 0
  · rw [if_pos h0] at h
    simp at h
    exact absurd (by rw [h.2]) h0
  · rw [if_neg h0] at h
    by_cases h1 : bs.length ≠ l.length
    · rw [if_pos h1] at h; simp at h
    · rw [if_neg h1] at h
      exact ⟨by omega, by omega, h⟩

theorem respsFrom_zero {l : List Ta} : ∀ (bs : List Int) (k : Nat) (acc : List Int), (respsFrom l bs k acc).2.1 = 0 → (respsFrom l bs k acc).2 = (0, 0)
  | [], k, acc, _ => rfl
  | b :: r, k, acc, h => by
    unfold respsFrom at h ⊢
    by_cases hz : (respF l (k : Int) b).2.1 ≠ 0
    · rw [if_pos hz] at h; exact absurd h hz
    · rw [if_neg hz] at h ⊢; exact respsFrom_zero r (k + 1) _ h

theorem responsesF_zero {l : List Ta} {bs : List Int} (h : (responsesF l bs).2.1 = 0) : (responsesF l bs).2 = (0, 0) := by
  unfold responsesF at h ⊢
  by_cases h0 : (chkX l).1 ≠ 0
  · rw [if_pos h0] at h; exact absurd h h0
  · rw [if_neg h0] at h ⊢
    by_cases h1 : bs.length ≠ l.length
    · rw [if_pos h1] at h; cases h
    · rw [if_neg h1] at h ⊢; exact respsFrom_zero bs 0 [] h

theorem responsesF_nil {l : List Ta} {bs : List Int} (h : (responsesF l bs).2.1 ≠ 0) : (responsesF l bs).1 = [] := by
  have key : ∀ (r : List Int) (k : Nat) (acc : List Int), (respsFrom l r k acc).2.1 ≠ 0 → (respsFrom l r k acc).1 = [] := by
    intro r
    induction r with
    | nil => intro k acc h; exact absurd rfl h
    | cons b r ih =>
      intro k acc h
      unfold respsFrom at h ⊢
      split
      · rfl
      · rename_i hc
        rw [if_neg hc] at h
        exact ih _ _ h
  unfold responsesF at h ⊢
  split
  · rfl
  · rename_i h1
    rw [if_neg h1] at h
    split
    · rfl
    · rename_i h2
      rw [if_neg h2] at h
      exact key _ _ _ h

theorem asg_low {l : List Ta} {bs : List Int} : ∀ (n : Nat) (left : List Nat) (out : List Ta) (p : Int) (m : List Ta), left.length = n → Asg l bs left out p → asgF l bs n left out p = some m → ∀ k, k < l.length → 1 ≤ (Tk m k).p ∧ (Tk m k).p ≤ p + (n : Int)
  | 0, left, out, p, m, hn, h, hm, k, hk => by
    have hleft : left = [] := List.eq_nil_of_length_eq_zero hn
    subst hleft
    rw [asgF] at hm
    have e : out = m := Option.some.inj hm
    subst e
    have := h.low k hk (by simp)
    omega
  | n + 1, left, out, p, m, hn, h, hm, k, hk => by
    rcases hf : left.findIdx? (lastIn l bs left) with _ | a
    · rw [asgF_none hf] at hm; cases hm
    · rw [asgF_some hf] at hm
      obtain ⟨h1, h2⟩ := h.step hf
      have := asg_low n _ _ _ m (by omega) h1 hm k hk
      omega

theorem chkFrom_all {l : List Ta} : ∀ (d k : Nat), l.length - k = d → (chkFrom l (l.drop k) k).1 = 0 → ∀ (q : Nat) (x : Ta), k ≤ q → l[q]? = some x → wrongF x (l.take q) = 0
  | 0, k, hd, _, q, x, hq, hx => by have := (List.getElem?_eq_some_iff.1 hx).1; omega
  | d + 1, k, hd, h, q, x, hq, hx => by
    obtain ⟨y, hy, he⟩ := drop_at (l := l) (k := k) (by omega)
    rw [chkFrom_at he] at h
    by_cases hw : wrongF y (l.take k) = 0
    · rw [if_pos hw] at h
      by_cases e : q = k
      · subst e
        rw [hy] at hx
        have := Option.some.inj hx
        subst this
        exact hw
      · exact chkFrom_all d (k + 1) (by omega) h q x (by omega) hx
    · rw [if_neg hw] at h
      exact absurd h hw

theorem chkFrom_mk {l : List Ta} (h : ∀ (q : Nat) (x : Ta), l[q]? = some x → wrongF x (l.take q) = 0) : ∀ (d k : Nat), l.length - k = d → (chkFrom l (l.drop k) k).1 = 0
  | 0, k, hd => by rw [List.drop_of_length_le (by omega)]; rfl
  | d + 1, k, hd => by
    obtain ⟨y, hy, he⟩ := drop_at (l := l) (k := k) (by omega)
    rw [chkFrom_at he, if_pos (h k y hy)]
    exact chkFrom_mk h d (k + 1) (by omega)

theorem ordFrom_mk : ∀ (l : List Ta) (k : Nat), (∀ x ∈ l, x.d ≤ x.t) → ordFrom l k = -1
  | [], _, _ => rfl
  | y :: r, k, h => by
    have := h y List.mem_cons_self
    rw [ordFrom, if_neg (by omega)]
    exact ordFrom_mk r (k + 1) (fun x hx => h x (List.mem_cons_of_mem _ hx))

/-- Other priorities, as good a set. -/
theorem chkX_same {l m : List Ta} (hX : (chkX l).1 = 0) (hlen : m.length = l.length) (hs : ∀ k, k < l.length → SameT (Tk m k) (Tk l k)) (hp : ∀ k, k < l.length → 0 ≤ (Tk m k).p ∧ (Tk m k).p ≤ 1000) : (chkX m).1 = 0 := by
  obtain ⟨h0, hDT, hl0, h8, hst, -⟩ := chkX_ok hX
  have hall : ∀ (q : Nat) (x : Ta), l[q]? = some x → wrongF x (l.take q) = 0 := fun q x hx => by
    unfold chkF at h0
    rw [if_neg (by omega)] at h0
    exact chkFrom_all l.length 0 (by omega) h0 q x (Nat.zero_le _) hx
  have hnm : m.map (·.nm) = l.map (·.nm) := by
    apply List.ext_getElem?
    intro k
    by_cases hk : k < l.length
    · rw [List.getElem?_map, List.getElem?_map, Tk_get hk, Tk_get (l := m) (by omega)]
      have := (hs k hk).1
      simp [this]
    · rw [List.getElem?_eq_none (by simp; omega), List.getElem?_eq_none (by simp; omega)]
  have hm : (chkF m).1 = 0 := by
    unfold chkF
    rw [if_neg (by omega)]
    refine chkFrom_mk (fun q x hx => ?_) m.length 0 (by omega)
    have hq : q < m.length := (List.getElem?_eq_some_iff.1 hx).1
    have ex : x = Tk m q := by have := Tk_get hq; rw [hx] at this; exact Option.some.inj this
    subst ex
    have hw := hall q _ (Tk_get (l := l) (by omega))
    obtain ⟨e1, e2, e3, e4, e5, e6⟩ := hs q (by omega)
    have hany : (m.take q).any (fun y => sameNm y.nm (Tk l q).nm) = (l.take q).any (fun y => sameNm y.nm (Tk l q).nm) := by
      have a1 : ∀ t : List Ta, t.any (fun y => sameNm y.nm (Tk l q).nm) = (t.map (·.nm)).any (fun n => sameNm n (Tk l q).nm) := fun t => by rw [List.any_map]; rfl
      rw [a1, a1, List.map_take, List.map_take, hnm]
    have hstq : stands (Tk m q) = true := by
      have hl := hst _ (List.mem_of_getElem? (Tk_get (l := l) (k := q) (by omega)))
      have hpq := hp q (by omega)
      unfold stands at hl ⊢
      rw [e2, e3, e4, e5, e6]
      unfold within at hl ⊢
      simp at hl ⊢
      omega
    unfold wrongF at hw ⊢
    rw [e1, e4, e2, hany, hstq]
    by_cases w1 : isNm (Tk l q).nm = false
    · rw [if_pos w1] at hw; cases hw
    · rw [if_neg w1] at hw ⊢
      by_cases w2 : (l.take q).any (fun y => sameNm y.nm (Tk l q).nm) = true
      · rw [if_pos w2] at hw; cases hw
      · rw [if_neg w2] at hw ⊢
        by_cases w3 : stands (Tk l q) = false
        · rw [if_pos w3] at hw; cases hw
        · rw [if_neg w3] at hw
          rw [if_neg (by simp)]
          exact hw
  unfold chkX
  rw [if_neg (by simpa using hm), ordFrom_mk m 0 (fun x hx => by
    obtain ⟨q, hq, e⟩ := List.getElem_of_mem hx
    have ex : x = Tk m q := by have := Tk_get hq; rw [List.getElem?_eq_getElem hq, e] at this; exact Option.some.inj this
    obtain ⟨e1, e2, e3, e4, e5, e6⟩ := hs q (by omega)
    rw [ex, e4, e3]
    exact hDT _ (List.mem_of_getElem? (Tk_get (l := l) (by omega)))), if_neg (by decide)]

/-- If any priorities do, Assign finds some that do. -/
theorem best_ok {l : List Ta} {bs rs : List Int} (h : responsesF l bs = (rs, (0, 0))) : ∃ m, asgF l bs l.length (List.range l.length) l 0 = some m ∧ m.length = l.length ∧ (∀ k, k < l.length → SameT (Tk m k) (Tk l k)) ∧ (responsesF m bs).2 = (0, 0) := by
  obtain ⟨hX, hbl, -⟩ := responsesF_split h
  obtain ⟨-, -, -, h8, hst, -⟩ := chkX_ok hX
  have he := responses_each h
  obtain ⟨m, h1, h2, h3, h4⟩ := asg_some hst (bs := bs) (fun i hi => (he i hi).2.1) (fun i hi => (he i hi).1) l.length (List.range l.length) l 0 (by simp) Asg.start
  have hlow := asg_low l.length (List.range l.length) l 0 m (by simp) Asg.start h1
  refine ⟨m, h1, h2, h3, responses_ok (chkX_same hX h2 h3 (fun k hk => by have := hlow k hk; omega)) (by omega) (fun i hi => h4 i (by omega)) (fun b hb => ?_)⟩
  obtain ⟨i, hi, e⟩ := List.getElem_of_mem hb
  have := he i (by omega)
  rw [List.getD_eq_getElem?_getD, List.getElem?_eq_getElem hi, e] at this
  exact this.2

/-- Where nothing comes late, those of Deadlines do. -/
theorem soon_ok {l : List Ta} {bs rs : List Int} {od : List Nat} (h : responsesF l bs = (rs, (0, 0))) (hj : ∀ k, k < l.length → (Tk l k).j = 0) (hb : ∀ k, k < l.length → bs.getD k 0 = 0) (ho : InOrd (fun k => (Tk l k).d) l.length od) : (responsesF (rkF l od 0 l) bs).2 = (0, 0) := by
  obtain ⟨hX, hbl, -⟩ := responsesF_split h
  obtain ⟨-, hDT, -, h8, hst, -⟩ := chkX_ok hX
  have he := responses_each h
  obtain ⟨r1, r2, r3⟩ := ranks_of ho
  have hmem : ∀ x ∈ l, ∃ k, k < l.length ∧ x = Tk l k := fun x hx => by
    obtain ⟨q, hq, e⟩ := List.getElem_of_mem hx
    refine ⟨q, hq, ?_⟩
    have := Tk_get hq
    rw [List.getElem?_eq_getElem hq, e] at this
    exact Option.some.inj this
  have hp : ∀ k, k < l.length → 0 ≤ (Tk (rkF l od 0 l) k).p ∧ (Tk (rkF l od 0 l) k).p ≤ 1000 := fun k hk => by
    obtain ⟨hp1, hs1⟩ := ho
    have hnd : od.Nodup := hp1.nodup_iff.2 List.nodup_range
    have hm : ∀ i ∈ od, i < l.length := fun i hi => by simpa using hp1.mem_iff.1 hi
    obtain ⟨-, -, h3⟩ := rkF_spec (l := l) hnd hm od [] l rfl rfl (fun k _ => ⟨rfl, rfl, rfl, rfl, rfl, rfl⟩) (fun q i hq => by simp at hq)
    obtain ⟨q, hq, e⟩ := List.getElem_of_mem (hp1.mem_iff.2 (List.mem_range.2 hk))
    have h4 := h3 q k (by rw [List.getElem?_eq_getElem hq, e])
    have hql : q < l.length := by have := hp1.length_eq; simp at this; omega
    rw [List.length_nil] at h4
    rw [h4]
    omega
  have hd0 : ∀ i, i < l.length → worstF (aheadP l i) l i 0 ≠ 0 := fun i hi => by have := (he i hi).1; rw [hb i hi] at this; exact this
  have hg := dead_good hst hDT (fun x hx => by obtain ⟨k, hk, rfl⟩ := hmem x hx; exact hj k hk) hd0 r1 r2 r3
  refine responses_ok (chkX_same hX r1 r2 hp) (by omega) (fun i hi => by rw [hb i (by omega)]; exact hg i (by omega)) (fun b hb' => ?_)
  obtain ⟨i, hi, e⟩ := List.getElem_of_mem hb'
  have := he i (by omega)
  rw [List.getD_eq_getElem?_getD, List.getElem?_eq_getElem hi, e] at this
  exact this.2

end Go.Proofs.Ytkafihaajpifoaf
