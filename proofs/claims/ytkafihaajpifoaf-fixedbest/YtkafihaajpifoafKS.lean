import Derived.Test.YtkafihaajpifoafKQ
namespace Go.Proofs.Ytkafihaajpifoaf
open Go.ChangeShapes Go.WideShapes Go.ChangeAt Go.RowKit

/- Assign: pure. -/
def inL (left : List Nat) (k : Nat) : Bool := left.contains k
def lastIn (l : List Ta) (bs : List Int) (left : List Nat) (i : Nat) : Bool := decide (worstF (inL left) l i (bs.getD i 0) ≠ 0)
def setP (out : List Ta) (i : Nat) (p : Int) : List Ta := out.set i { Tk out i with p := p }
def asgF (l : List Ta) (bs : List Int) : Nat → List Nat → List Ta → Int → Option (List Ta)
  | 0, _, out, _ => some out
  | n + 1, left, out, p => match left.findIdx? (lastIn l bs left) with
    | none => none
    | some a => asgF l bs n (left.eraseIdx a) (setP out (left.getD a 0) (p + 1)) (p + 1)

theorem inL_iff {left : List Nat} {k : Nat} : inL left k = true ↔ k ∈ left := by
  unfold inL; simp

/-- All but the priorities is as it was. -/
def SameT (x y : Ta) : Prop := x.nm = y.nm ∧ x.c = y.c ∧ x.t = y.t ∧ x.d = y.d ∧ x.j = y.j ∧ x.o = y.o

theorem worst_same {l m : List Ta} (hlen : m.length = l.length) (hs : ∀ k, k < l.length → SameT (Tk m k) (Tk l k)) {A B : Nat → Bool} {i : Nat} {b : Int} (hi : i < l.length) (hAB : ∀ k, k < l.length → k ≠ i → A k = B k) : worstF A m i b = worstF B l i b := by
  obtain ⟨-, hc, -, hd, hj, -⟩ := hs i hi
  unfold worstF
  rw [hc, hd, hj]
  congr 1
  funext w
  rw [ask_sum, ask_sum, hlen]
  congr 1
  refine FK.sumN_eq _ (fun k hk => ?_)
  obtain ⟨-, kc, kt, -, kj, -⟩ := hs k hk
  have hu : up1 w (Tk m k) = up1 w (Tk l k) := by unfold up1; rw [kc, kt, kj]
  rw [hu]
  by_cases hki : k = i
  · rw [if_neg (by simp [hki]), if_neg (by simp [hki])]
  · rw [hAB k hk hki]

theorem Tk_set {out : List Ta} {i k : Nat} {p : Int} (hi : i < out.length) : Tk (setP out i p) k = if k = i then { Tk out i with p := p } else Tk out k := by
  unfold setP Tk
  rw [List.getD_eq_getElem?_getD, List.getD_eq_getElem?_getD, List.getElem?_set]
  by_cases h : i = k
  · subst h; simp [hi]
  · have h' : ¬ k = i := fun e => h e.symm
    simp [h, h']

/-- What is so while priorities are given. -/
structure Asg (l : List Ta) (bs : List Int) (left : List Nat) (out : List Ta) (p : Int) : Prop where
  len : out.length = l.length
  same : ∀ k, k < l.length → SameT (Tk out k) (Tk l k)
  nd : left.Nodup
  rng : ∀ k ∈ left, k < l.length
  p0 : 0 ≤ p
  low : ∀ k, k < l.length → k ∉ left → 1 ≤ (Tk out k).p ∧ (Tk out k).p ≤ p
  dif : ∀ i k, i < l.length → k < l.length → i ∉ left → k ∉ left → i ≠ k → (Tk out i).p ≠ (Tk out k).p
  ok : ∀ i, i < l.length → i ∉ left → worstF (fun k => inL left k || decide ((Tk out i).p < (Tk out k).p)) l i (bs.getD i 0) ≠ 0

theorem mem_without : ∀ (l : List Nat) (a : Nat) (h : a < l.length), l.Nodup → ∀ k, k ∈ l.eraseIdx a ↔ k ∈ l ∧ k ≠ l[a]
  | [], a, h, _, _ => by simp at h
  | x :: r, 0, _, hn, k => by
    have hx := (List.nodup_cons.1 hn).1
    rw [List.eraseIdx_cons_zero, List.getElem_cons_zero]
    constructor
    · intro hk
      exact ⟨List.mem_cons_of_mem _ hk, fun e => hx (e ▸ hk)⟩
    · rintro ⟨hk, hne⟩
      rcases List.mem_cons.1 hk with e | hk
      · exact absurd e hne
      · exact hk
  | x :: r, a + 1, h, hn, k => by
    have hx := (List.nodup_cons.1 hn).1
    have ih := mem_without r a (by simpa using h) (List.nodup_cons.1 hn).2 k
    rw [List.eraseIdx_cons_succ, List.getElem_cons_succ, List.mem_cons, List.mem_cons, ih]
    constructor
    · rintro (rfl | ⟨q1, q2⟩)
      · exact ⟨.inl rfl, fun e => hx (by rw [e]; exact List.getElem_mem _)⟩
      · exact ⟨.inr q1, q2⟩
    · rintro ⟨rfl | q1, q2⟩
      · exact .inl rfl
      · exact .inr ⟨q1, q2⟩

theorem Asg.step {l : List Ta} {bs : List Int} {left : List Nat} {out : List Ta} {p : Int} (h : Asg l bs left out p) {a : Nat} (ha : left.findIdx? (lastIn l bs left) = some a) : Asg l bs (left.eraseIdx a) (setP out (left.getD a 0) (p + 1)) (p + 1) ∧ (left.eraseIdx a).length + 1 = left.length := by
  obtain ⟨hal, hla, -⟩ := List.findIdx?_eq_some_iff_getElem.1 ha
  have hg : left.getD a 0 = left[a] := by simp [hal]
  have hmem : left[a] ∈ left := List.getElem_mem hal
  have hil := h.rng _ hmem
  rw [hg]
  generalize hi : left[a] = i at *
  have hio : i < out.length := by rw [h.len]; exact hil
  have hT := fun k => Tk_set (out := out) (i := i) (k := k) (p := p + 1) hio
  have hmi : ∀ k, k ∈ left.eraseIdx a ↔ k ∈ left ∧ k ≠ i := fun k => by
    rw [← hi]
    exact mem_without left a hal h.nd k
  refine ⟨⟨?_, fun k hk => ?_, ?_, fun k hk => h.rng k ((hmi k).1 hk).1, by have := h.p0; omega, fun k hk hn => ?_, fun x y hx hy nx ny hne => ?_, fun x hx nx => ?_⟩, ?_⟩
  · unfold setP; rw [List.length_set]; exact h.len
  · rw [hT]
    split
    · rename_i e
      subst e
      obtain ⟨q1, q2, q3, q4, q5, q6⟩ := h.same k hk
      exact ⟨q1, q2, q3, q4, q5, q6⟩
    · exact h.same k hk
  · exact List.Sublist.nodup (List.eraseIdx_sublist _ _) h.nd
  · rw [hT]
    by_cases e : k = i
    · rw [if_pos e]
      have := h.p0
      exact ⟨by show 1 ≤ p + 1; omega, Int.le_refl _⟩
    · rw [if_neg e]
      have := h.low k hk (fun q => hn ((hmi k).2 ⟨q, e⟩))
      omega
  · rw [hT, hT]
    by_cases ex : x = i
    · by_cases ey : y = i
      · exact absurd (ex.trans ey.symm) hne
      · rw [if_pos ex, if_neg ey]
        have := (h.low y hy (fun q => ny ((hmi y).2 ⟨q, ey⟩))).2
        show p + 1 ≠ _
        omega
    · by_cases ey : y = i
      · rw [if_neg ex, if_pos ey]
        have := (h.low x hx (fun q => nx ((hmi x).2 ⟨q, ex⟩))).2
        show _ ≠ p + 1
        omega
      · rw [if_neg ex, if_neg ey]
        exact h.dif x y hx hy (fun q => nx ((hmi x).2 ⟨q, ex⟩)) (fun q => ny ((hmi y).2 ⟨q, ey⟩)) hne
  · by_cases ex : x = i
    · subst ex
      have hw : worstF (inL left) l x (bs.getD x 0) ≠ 0 := by unfold lastIn at hla; simpa using hla
      have e := worst_same (l := l) (m := l) rfl (fun k _ => ⟨rfl, rfl, rfl, rfl, rfl, rfl⟩) (A := fun k => inL (left.eraseIdx a) k || decide ((Tk (setP out x (p + 1)) x).p < (Tk (setP out x (p + 1)) k).p)) (B := inL left) (i := x) (b := bs.getD x 0) hx (fun k hk hne => by
        rw [hT, hT, if_pos rfl, if_neg hne]
        apply Bool.eq_iff_iff.2
        rw [Bool.or_eq_true, inL_iff, inL_iff, hmi, decide_eq_true_eq]
        constructor
        · rintro (q | q)
          · exact q.1
          · apply Classical.byContradiction
            intro hn
            have := (h.low k hk hn).2
            have q' : p + 1 < (Tk out k).p := q
            omega
        · exact fun q => .inl ⟨q, hne⟩)
      rw [e]
      exact hw
    · have hnx : x ∉ left := fun q => nx ((hmi x).2 ⟨q, ex⟩)
      have e := worst_same (l := l) (m := l) rfl (fun k _ => ⟨rfl, rfl, rfl, rfl, rfl, rfl⟩) (A := fun k => inL (left.eraseIdx a) k || decide ((Tk (setP out i (p + 1)) x).p < (Tk (setP out i (p + 1)) k).p)) (B := fun k => inL left k || decide ((Tk out x).p < (Tk out k).p)) (i := x) (b := bs.getD x 0) hx (fun k hk hne => by
        rw [hT, hT, if_neg ex]
        apply Bool.eq_iff_iff.2
        rw [Bool.or_eq_true, Bool.or_eq_true, inL_iff, inL_iff, hmi, decide_eq_true_eq, decide_eq_true_eq]
        by_cases ek : k = i
        · rw [if_pos ek]
          constructor
          · exact fun _ => .inl (by rw [ek]; exact hmem)
          · intro _
            refine .inr ?_
            have := (h.low x hx hnx).2
            show (Tk out x).p < p + 1
            omega
        · rw [if_neg ek]
          constructor
          · rintro (q | q)
            · exact .inl q.1
            · exact .inr q
          · rintro (q | q)
            · exact .inl ⟨q, ek⟩
            · exact .inr q)
      rw [e]
      exact h.ok x hx hnx
  · rw [List.length_eraseIdx_of_lt hal]
    omega

/-- Assign finds some that do, if any do. -/
theorem asg_some {l : List Ta} (hl : ∀ x ∈ l, stands x = true) {bs : List Int} (hb : ∀ i, i < l.length → 0 ≤ bs.getD i 0) (hd : ∀ i, i < l.length → worstF (aheadP l i) l i (bs.getD i 0) ≠ 0) : ∀ (n : Nat) (left : List Nat) (out : List Ta) (p : Int), left.length = n → Asg l bs left out p → ∃ m, asgF l bs n left out p = some m ∧ m.length = l.length ∧ (∀ k, k < l.length → SameT (Tk m k) (Tk l k)) ∧ ∀ i, i < l.length → worstF (aheadP m i) m i (bs.getD i 0) ≠ 0
  | 0, left, out, p, hn, h => by
    have hleft : left = [] := List.eq_nil_of_length_eq_zero hn
    subst hleft
    refine ⟨out, rfl, h.len, h.same, fun i hi => ?_⟩
    rw [worst_same h.len h.same (B := fun k => inL [] k || decide ((Tk out i).p < (Tk out k).p)) hi (fun k hk hne => by
      have := h.dif i k hi hk (by simp) (by simp) (fun e => hne e.symm)
      unfold aheadP
      apply Bool.eq_iff_iff.2
      rw [Bool.or_eq_true, inL_iff, decide_eq_true_eq, decide_eq_true_eq]
      constructor
      · intro q; exact .inr (by omega)
      · rintro (q | q)
        · simp at q
        · omega)]
    exact h.ok i hi (by simp)
  | n + 1, left, out, p, hn, h => by
    have hne : ∃ i, i < l.length ∧ inL left i = true := by
      cases left with
      | nil => simp at hn
      | cons x r => exact ⟨x, h.rng x List.mem_cons_self, inL_iff.2 List.mem_cons_self⟩
    obtain ⟨i, i1, i2, i3⟩ := audsley_step hl hb hd hne
    cases e : left.findIdx? (lastIn l bs left) with
    | none =>
      rw [List.findIdx?_eq_none_iff] at e
      have := e i (inL_iff.1 i2)
      unfold lastIn at this
      simp at this
      exact absurd this i3
    | some a =>
      obtain ⟨h', hlen⟩ := h.step e
      obtain ⟨m, m1, m2⟩ := asg_some hl hb hd n _ _ _ (by omega) h'
      refine ⟨m, ?_, m2⟩
      unfold asgF
      rw [e]
      exact m1

theorem Asg.start {l : List Ta} {bs : List Int} : Asg l bs (List.range l.length) l 0 :=
  ⟨rfl, fun _ _ => ⟨rfl, rfl, rfl, rfl, rfl, rfl⟩, List.nodup_range, fun _ hk => List.mem_range.1 hk, Int.le_refl _, fun _ hk hn => absurd (List.mem_range.2 hk) hn, fun _ _ hi _ hn => absurd (List.mem_range.2 hi) hn, fun _ hi hn => absurd (List.mem_range.2 hi) hn⟩
end Go.Proofs.Ytkafihaajpifoaf
