import Derived.Test.YtdligmnboalagafKE
namespace Go.Proofs.Ytdligmnboalagaf
open Go.ChangeShapes Go.WideShapes Go.ChangeAt Go.RowKit

theorem wOf_zero {ask : Int → Int} {jj d : Int} (hj : 0 ≤ jj) (h : wOf ask jj d = 0) : ∀ w, 1 ≤ w → w + jj ≤ d → ask w ≠ w := by
  intro w h1 h2 h3
  unfold wOf at h
  cases e : (List.range (d + 1).toNat).find? (isFix ask jj d) with
  | none =>
    rw [List.find?_range_eq_none] at e
    have := e w.toNat (by omega)
    rw [Bool.not_eq_true', Bool.eq_false_iff] at this
    refine this (isFix_iff.2 ⟨by omega, by omega, ?_⟩)
    rw [show ((w.toNat : Nat) : Int) = w by omega]
    exact h3
  | some n =>
    rw [e] at h
    rw [List.find?_range_eq_some] at e
    have := (isFix_iff.1 e.1).1
    have h' : (n : Int) + jj = 0 := h
    omega

/-- When a job is done, and that it ran just ahead of that. -/
theorem ends_first {js : List Jb} {N : Nat} {f : Nat → S8.St} (hok : ∀ x ∈ js, S8.okJ x) (hp : ∀ u, u ≤ N → S8.Plays js 1 true u (f u)) (hs : ∀ u, u < N → ∃ b, S8.Pick js 1 true u (f u) b ∧ f (u + 1) = (f u).after u b) :
    ∀ u, u ≤ N → ∀ i, i < js.length → (0 < S8.L (f u).left i ∧ (f u).ends[i]? = some (-1)) ∨
      ∃ e : Nat, 1 ≤ e ∧ e ≤ u ∧ (f u).ends[i]? = some (e : Int) ∧ S8.L (f e).left i = 0 ∧ (∀ t, t < e → 0 < S8.L (f t).left i) ∧ (∀ j, j < js.length → (S8.J js j).a ≤ ((e - 1 : Nat) : Int) → 0 < S8.L (f (e - 1)).left j → j ≠ i → S8.lexJ 1 js i j) ∧ ∀ j, j ≠ i → S8.L (f e).left j = S8.L (f (e - 1)).left j := by
  have R := run_of hok hp hs 0
  intro u
  induction u with
  | zero =>
    intro _ i hi
    refine .inl ⟨?_, ?_⟩
    · have e : js[i]? = some (S8.J js i) := by unfold S8.J; rw [List.getD_eq_getElem?_getD]; simp [hi]
      have h2 := (hok _ (List.mem_of_getElem? e)).2.2.1
      have h3 : S8.L (f 0).left i = (S8.J js i).c := R.init i hi
      omega
    · have h0 : f 0 = S8.St.init js := hp 0 (Nat.zero_le _)
      rw [h0]
      unfold S8.St.init
      simp [hi]
  | succ u ih =>
    intro hu i hi
    obtain ⟨b, hb, he⟩ := hs u (by omega)
    have hO := S8.plays_ok hok u _ (hp u (by omega))
    rcases ih (by omega) i hi with ⟨hpos, hend⟩ | ⟨e, e1, e2, e3, e4, e5, e6, e7⟩
    · rcases hb with ⟨h, -⟩ | ⟨-, hb⟩
      · cases h
      rcases hb with ⟨rfl, hb⟩ | ⟨k, rfl, hk, h1, h2, h3⟩
      · refine .inl ⟨?_, ?_⟩
        · rw [he]; exact hpos
        · rw [he]; exact hend
      · have hL : ∀ j, S8.L (f (u + 1)).left j = if j = k then S8.L (f u).left k - 1 else S8.L (f u).left j := fun j => by
          rw [he, after_some]
          exact S8.L_set (by rw [hO.left]; exact hk)
        by_cases hik : i = k
        · subst hik
          by_cases hz : S8.L (f u).left i - 1 = 0
          · refine .inr ⟨u + 1, by omega, Nat.le_refl _, ?_, ?_, ?_, ?_, ?_⟩
            · rw [he, after_some]
              show (if S8.L (f u).left i - 1 = 0 then (f u).ends.set i ((u : Int) + 1) else (f u).ends)[i]? = _
              rw [if_pos hz, List.getElem?_set_self (by rw [hO.ends]; exact hi)]
              rfl
            · rw [hL, if_pos rfl]; exact hz
            · intro t ht
              apply Classical.byContradiction
              intro hc
              have hn := R.nneg t i (by omega) hi
              have hz' : S8.L (f t).left i = 0 := by
                have : 0 ≤ S8.L (f t).left i := hn
                omega
              have := R.zero (t := t) (u := u) hi hz' (by omega) (by omega)
              have h' : S8.L (f u).left i = 0 := this
              omega
            · rw [Nat.add_sub_cancel]
              exact fun j hj ha hl hne => h3 j hj ha hl hne
            · intro j hj
              rw [Nat.add_sub_cancel, hL, if_neg hj]
          · refine .inl ⟨?_, ?_⟩
            · rw [hL, if_pos rfl]; omega
            · rw [he, after_some]
              show (if S8.L (f u).left i - 1 = 0 then (f u).ends.set i ((u : Int) + 1) else (f u).ends)[i]? = _
              rw [if_neg hz]
              exact hend
        · refine .inl ⟨?_, ?_⟩
          · rw [hL, if_neg hik]; exact hpos
          · rw [he, after_some]
            show (if S8.L (f u).left k - 1 = 0 then (f u).ends.set k ((u : Int) + 1) else (f u).ends)[i]? = _
            split
            · rw [List.getElem?_set_ne (fun e => hik e.symm)]; exact hend
            · exact hend
    · refine .inr ⟨e, e1, by omega, ?_, e4, e5, e6, e7⟩
      have hz : S8.L (f u).left i = 0 := R.zero (t := e) (u := u) hi e4 e2 (by omega)
      rw [he]
      rcases S8.pick_rng hO hb with rfl | ⟨k, rfl, hk, hpos⟩
      · exact e3
      · rw [after_some]
        have hne : k ≠ i := fun e => by subst e; omega
        show (if S8.L (f u).left k - 1 = 0 then (f u).ends.set k ((u : Int) + 1) else (f u).ends)[i]? = some (e : Int)
        split
        · rw [List.getElem?_set_ne hne]; exact e3
        · exact e3

/-- What comes of all at 0. -/
structure Nought (l : List Ta) (E : Nat) (cs : List Co) (js : List Jb) : Prop where
  chk : (chkX l).1 = 0
  flat : ∀ x ∈ l, x.j = 0 ∧ x.o = 0
  apart : ∀ i j, i < l.length → j < l.length → (Tk l i).p = (Tk l j).p → i = j
  due : ∀ x ∈ l, x.d ≤ (E : Int)
  all : cs = comesUpto l E
  len : js.length = cs.length
  leg : (legF l cs).1 = 0
  job : ∀ (n : Nat) (c : Co), cs[n]? = some c → S8.J js n = ⟨c.k, c.a, (Tk l c.k.toNat).c, c.a + (Tk l c.k.toNat).d, (Tk l c.k.toNat).p⟩
  first : ∀ i, i < l.length → cs[i]? = some ⟨(i : Int), 0⟩

theorem Nought.sum {l : List Ta} {E : Nat} {cs : List Co} {js : List Jb} (h : Nought l E cs js) {i e : Nat} (hi : i < l.length) (h1 : 1 ≤ e) (he : (e : Int) ≤ (Tk l i).d) :
    FK.sumN js.length (fun j => if (Tk l i).p ≤ (S8.J js j).p ∧ (S8.J js j).a < (e : Int) then (S8.J js j).c else 0) = askF ((Tk l i).c + 0) (othF (aheadP l i) i l 0) (e : Int) := by
  obtain ⟨-, hDT, -, h8, hst, -⟩ := chkX_ok h.chk
  have heE : e ≤ E := by have := h.due _ (Tk_mem hi); omega
  have s1 : FK.sumN js.length (fun j => if (Tk l i).p ≤ (S8.J js j).p ∧ (S8.J js j).a < (e : Int) then (S8.J js j).c else 0) = FK.sumN cs.length (fun j => (fun c : Co => if c.a < (e : Int) then (if (Tk l i).p ≤ (Tk l c.k.toNat).p then (Tk l c.k.toNat).c else 0) else 0) (cs.getD j ⟨0, 0⟩)) := by
    rw [h.len]
    refine FK.sumN_eq _ (fun j hj => ?_)
    have hc : cs[j]? = some (cs.getD j ⟨0, 0⟩) := by rw [List.getD_eq_getElem?_getD]; simp [hj]
    rw [h.job j _ hc]
    dsimp only
    by_cases q1 : (cs.getD j ⟨0, 0⟩).a < (e : Int)
    · by_cases q2 : (Tk l i).p ≤ (Tk l (cs.getD j ⟨0, 0⟩).k.toNat).p
      · rw [if_pos ⟨q2, q1⟩, if_pos q1, if_pos q2]
      · rw [if_neg (fun q => q2 q.1), if_pos q1, if_neg q2]
    · rw [if_neg (fun q => q1 q.2), if_neg q1]
  rw [s1, sumL_sumN (fun c : Co => if c.a < (e : Int) then (if (Tk l i).p ≤ (Tk l c.k.toNat).p then (Tk l c.k.toNat).c else 0) else 0) ⟨0, 0⟩ cs, h.all, comes_ahead hst (fun k => if (Tk l i).p ≤ (Tk l k).p then (Tk l k).c else 0) heE]
  have h2 := sumO_sumN (A := aheadP l i) (i := i) (w := (e : Int)) (l := l) l.length 0 (by omega)
  rw [List.drop_zero] at h2
  unfold askF
  have h3 : sumO (e : Int) (othF (aheadP l i) i l 0) = FK.sumN l.length (fun k => if k ≠ i ∧ aheadP l i k = true then up1 (e : Int) (Tk l k) else 0) := by
    rw [h2]
    show _ = (0 : Int) + _
    omega
  rw [h3]
  have h4 : (Tk l i).c + 0 + FK.sumN l.length (fun k => if k ≠ i ∧ aheadP l i k = true then up1 (e : Int) (Tk l k) else 0) = FK.sumN l.length (fun k => (if k = i then (Tk l i).c else 0) + (if k ≠ i ∧ aheadP l i k = true then up1 (e : Int) (Tk l k) else 0)) := by
    rw [FK.sumN_add, FK.sumN_pick l.length i (Tk l i).c hi]
    omega
  rw [h4]
  refine FK.sumN_eq _ (fun k hk => ?_)
  obtain ⟨g1, g2, g3, g4, g5, g6, g7, g8, -, -⟩ := stands_t (stands_mem hst hk)
  obtain ⟨j0, o0⟩ := h.flat _ (Tk_mem hk)
  have ec : cnt (Tk l k) (e : Int) = ((e : Int) + (Tk l k).j + (Tk l k).t - 1) / (Tk l k).t := by
    unfold cnt
    rw [o0, j0, if_pos (by omega)]
    congr 1
    try omega
  rw [ec]
  by_cases hki : k = i
  · subst hki
    have e1 : ((e : Int) + (Tk l k).j + (Tk l k).t - 1) / (Tk l k).t = 1 := by
      have hd := hDT _ (Tk_mem hk)
      rw [j0, Int.ediv_eq_iff_of_pos (by omega)]
      omega
    rw [e1, if_pos (Int.le_refl _), if_pos rfl, if_neg (by simp)]
    omega
  · by_cases hp : (Tk l i).p ≤ (Tk l k).p
    · rw [if_pos hp, if_neg hki, if_pos ⟨hki, by unfold aheadP; simp [hp]⟩]
      unfold up1
      omega
    · rw [if_neg hp, if_neg hki, if_neg (by unfold aheadP; simp [hp])]
      omega

/-- The critical instant, just so. -/
theorem exact_pure {l : List Ta} {E : Nat} {cs : List Co} {js : List Jb} {s : S8.St} (h : Nought l E cs js) (hok : ∀ x ∈ js, S8.okJ x) (hP : S8.Plays js 1 true E s) :
    ∀ i, i < l.length → ∃ e, s.ends[i]? = some e ∧ (respR l i 0 ≠ 0 → e = respR l i 0) ∧ (respR l i 0 = 0 → ¬ (0 ≤ e ∧ e ≤ (Tk l i).d)) := by
  obtain ⟨-, hDT, -, h8, hst, -⟩ := chkX_ok h.chk
  have hlk := legF_ok h.leg
  obtain ⟨f, rfl, hp, hs⟩ := plays_seq E s hP
  intro i hi
  have hfi := h.first i hi
  have hil : i < js.length := by rw [h.len]; exact (List.getElem?_eq_some_iff.1 hfi).1
  have hji := h.job i _ hfi
  have ei : ((i : Nat) : Int).toNat = i := Int.toNat_natCast i
  rw [show (⟨(i : Int), 0⟩ : Co).k.toNat = i from ei] at hji
  have hji' : S8.J js i = ⟨(i : Int), 0, (Tk l i).c, 0 + (Tk l i).d, (Tk l i).p⟩ := hji
  have R := run_of hok hp hs (Tk l i).p
  obtain ⟨j0, o0⟩ := h.flat _ (Tk_mem hi)
  have hdE := h.due _ (Tk_mem hi)
  have hdt := hDT _ (Tk_mem hi)
  have hC : ∀ n, n < js.length → ∃ c, cs[n]? = some c := fun n hn => ⟨cs[n]'(by rw [← h.len]; exact hn), by simp [show n < cs.length by rw [← h.len]; exact hn]⟩
  -- a time that is a fix point if it is done then
  have hfix : ∀ e : Nat, 1 ≤ e → (e : Int) ≤ (Tk l i).d → S8.L (f e).left i = 0 → (∀ t, t < e → 0 < S8.L (f t).left i) → (∀ j, j < js.length → (S8.J js j).a ≤ ((e - 1 : Nat) : Int) → 0 < S8.L (f (e - 1)).left j → j ≠ i → S8.lexJ 1 js i j) → (∀ j, j ≠ i → S8.L (f e).left j = S8.L (f (e - 1)).left j) → askF ((Tk l i).c + 0) (othF (aheadP l i) i l 0) (e : Int) = (e : Int) := by
    intro e h1 h2 h3 h4 h5 h6
    rw [← h.sum hi h1 h2]
    refine exact_done R hil (by show (Tk l i).p ≤ (S8.J js i).p; rw [hji']; exact Int.le_refl _) (by show (S8.J js i).a = 0; rw [hji']) (by omega) h4 (fun j hj hH hr => ?_)
    have hH' : (Tk l i).p ≤ (S8.J js j).p := hH
    have hr' : (S8.J js j).a < (e : Int) := hr
    show S8.L (f e).left j = 0
    by_cases hji2 : j = i
    · subst hji2; exact h3
    · rw [h6 j hji2]
      apply Classical.byContradiction
      intro hne
      have hn := R.nneg (e - 1) j (by omega) hj
      have hpos : 0 < S8.L (f (e - 1)).left j := by
        have : 0 ≤ S8.L (f (e - 1)).left j := hn
        omega
      have hlex := h5 j hj (by omega) hpos hji2
      unfold S8.lexJ S8.lex S8.key at hlex
      simp only [if_true] at hlex
      rw [hji'] at hlex
      dsimp only at hlex
      have hpe : (S8.J js j).p = (Tk l i).p := by omega
      obtain ⟨c, hc⟩ := hC j hj
      have hjj := h.job j c hc
      have hck := hlk.2.2 c (List.mem_of_getElem? hc)
      have hpp : (Tk l c.k.toNat).p = (Tk l i).p := by rw [← hpe, hjj]
      have hki := h.apart c.k.toNat i (by omega) hi hpp
      have hra : (S8.J js j).a = c.a := by rw [hjj]
      rcases Nat.lt_or_gt_of_ne hji2 with hlt | hgt
      · have := apart_of h.leg j i c ⟨(i : Int), 0⟩ hlt hc hfi (by show c.k = (i : Int); omega)
        have ht := (stands_t (stands_mem hst hi)).1
        have e2 : (l.getD (⟨(i : Int), 0⟩ : Co).k.toNat ta0).t = (Tk l i).t := by rw [show (⟨(i : Int), 0⟩ : Co).k.toNat = i from ei]; rfl
        rw [e2] at this
        have h0 : (⟨(i : Int), 0⟩ : Co).a = 0 := rfl
        omega
      · have := apart_of h.leg i j ⟨(i : Int), 0⟩ c hgt hfi hc (by show (i : Int) = c.k; omega)
        have e2 : (l.getD c.k.toNat ta0).t = (Tk l i).t := by rw [hki]; rfl
        rw [e2] at this
        have h0 : (⟨(i : Int), 0⟩ : Co).a = 0 := rfl
        omega
  -- done where there is a fix point
  have hdone : ∀ w : Nat, 1 ≤ w → (w : Int) ≤ (Tk l i).d → askF ((Tk l i).c + 0) (othF (aheadP l i) i l 0) (w : Int) = (w : Int) → S8.L (f w).left i = 0 := by
    intro w h1 h2 h3
    have hb := R.busy (t0 := 0) (w := w) (fun j hj _ hr => by
      have h0 : 0 ≤ (S8.J js j).a := R.r0 j hj
      have hr' : (S8.J js j).a < ((0 : Nat) : Int) := hr
      omega) h1 (by omega) (by
      have hsum := h.sum hi h1 h2
      rw [h3] at hsum
      refine Int.le_of_eq (Eq.trans ?_ hsum)
      refine FK.sumN_eq _ (fun j hj => ?_)
      have h0 := R.r0 j hj
      have h0' : 0 ≤ (S8.J js j).a := h0
      by_cases hc : (Tk l i).p ≤ (S8.J js j).p ∧ (S8.J js j).a < (w : Int)
      · rw [if_pos hc, if_pos ⟨hc.1, by omega, by have := hc.2; omega⟩]
      · rw [if_neg hc, if_neg (fun q => hc ⟨q.1, by have := q.2.2; omega⟩)])
    obtain ⟨q, q1, q2, q3⟩ := hb
    have := q3 i hil (by show (Tk l i).p ≤ (S8.J js i).p; rw [hji']; exact Int.le_refl _) (by show (S8.J js i).a < (q : Int); rw [hji']; show (0 : Int) < (q : Int); omega)
    exact R.zero hil this (by omega) (by omega)
  rcases ends_first hok hp hs E (Nat.le_refl E) i hil with ⟨hpos, hend⟩ | ⟨e, e1, e2, e3, e4, e5, e6, e7⟩
  · refine ⟨-1, hend, fun hr => ?_, fun _ hc => by omega⟩
    exfalso
    obtain ⟨w, w1, w2, w3, -, w5⟩ := wOf_some (show wOf _ _ _ ≠ 0 from hr)
    obtain ⟨wn, rfl⟩ : ∃ n : Nat, w = (n : Int) := ⟨w.toNat, by omega⟩
    have hz := hdone wn (by omega) (by omega) w3
    have := R.zero (t := wn) (u := E) hil hz (by omega) (Nat.le_refl _)
    have h' : S8.L (f E).left i = 0 := this
    omega
  · refine ⟨(e : Int), e3, fun hr => ?_, fun hr hc => ?_⟩
    · obtain ⟨w, w1, w2, w3, w4, w5⟩ := wOf_some (show wOf _ _ _ ≠ 0 from hr)
      obtain ⟨wn, rfl⟩ : ∃ n : Nat, w = (n : Int) := ⟨w.toNat, by omega⟩
      have w5' : respR l i 0 = (wn : Int) + (Tk l i).j := w5
      have hz := hdone wn (by omega) (by omega) w3
      have hew : e ≤ wn := by
        apply Classical.byContradiction
        intro hc
        have := e5 wn (by omega)
        omega
      have hfx := hfix e e1 (by omega) e4 e5 e6 e7
      have : ¬ (e : Int) < (wn : Int) := fun hlt => w4 (e : Int) (by omega) hlt hfx
      omega
    · have hfx := hfix e e1 hc.2 e4 e5 e6 e7
      exact wOf_zero (show 0 ≤ (Tk l i).j by omega) (show wOf _ _ _ = 0 from hr) (e : Int) (by omega) (by omega) hfx
end Go.Proofs.Ytdligmnboalagaf
namespace Go.Proofs.Ytdligmnboalagaf
open Go.ChangeShapes Go.WideShapes Go.ChangeAt Go.RowKit

def jobOf (l : List Ta) (c : Co) : Jb := ⟨c.k, c.a + 0, (Tk l c.k.toNat).c, c.a + (Tk l c.k.toNat).d, (Tk l c.k.toNat).p⟩

theorem jobs_all {l : List Ta} (hl : ∀ x ∈ l, stands x = true) : ∀ (cs : List Co) (acc : List Jb) (i : Nat), (∀ c ∈ cs, 0 ≤ c.k ∧ c.k < (l.length : Int)) → jobsFrom l acc cs (List.replicate cs.length 0) (cs.map (fun c => (Tk l c.k.toNat).c)) i = ((0, 0), acc ++ cs.map (jobOf l))
  | [], acc, i, _ => by rw [jobsFrom_end]; simp
  | c :: cs, acc, i, h => by
    obtain ⟨h1, h2⟩ := h c List.mem_cons_self
    obtain ⟨g1, g2, g3, g4, g5, g6, g7, g8, -, -⟩ := stands_t (stands_mem hl (k := c.k.toNat) (by omega))
    have e : jobOne l c 0 (Tk l c.k.toNat).c = some (jobOf l c) := by
      unfold jobOne
      rw [if_neg]
      · rfl
      · have u1 : (l.getD c.k.toNat ta0).j = (Tk l c.k.toNat).j := rfl
        have u2 : (l.getD c.k.toNat ta0).c = (Tk l c.k.toNat).c := rfl
        omega
    rw [List.length_cons, List.replicate_succ, List.map_cons, jobsFrom, e]
    show jobsFrom l (acc ++ [jobOf l c]) cs _ _ _ = _
    rw [jobs_all hl cs (acc ++ [jobOf l c]) (i + 1) (fun c' hc' => h c' (List.mem_cons_of_mem _ hc')), List.map_cons, List.append_assoc]
    rfl

theorem hits_all : ∀ (r : List Ta) (i n : Nat), (∀ x ∈ r, x.o = 0) → n < r.length → (hitsFrom 0 r i)[n]? = some ⟨((i + n : Nat) : Int), 0⟩
  | [], i, n, _, hn => by simp at hn
  | x :: r, i, n, h, hn => by
    have ho := h x List.mem_cons_self
    rw [hitsFrom, if_pos (show hits x 0 from ⟨by omega, by rw [ho]; simp⟩)]
    cases n with
    | zero => rfl
    | succ n =>
      rw [List.getElem?_cons_succ, hits_all r (i + 1) n (fun y hy => h y (List.mem_cons_of_mem _ hy)) (by simpa using hn)]
      rw [show i + 1 + n = i + (n + 1) by omega]

theorem comesF_ok {l : List Ta} {e : Int} {g2 : Int} {cs : List Co} (h : comesF l e = ((0, g2), cs)) (hc : (chkF l).1 = 0) : g2 = 0 ∧ cs = comesUpto l e.toNat ∧ 0 ≤ e ∧ e ≤ 20000 := by
  have h0 := h
  unfold comesF at h
  rw [if_neg (by omega)] at h
  by_cases q1 : e < 0 ∨ 20000 < e
  · rw [if_pos q1] at h
    have := (Prod.mk.inj (Prod.mk.inj h).1).1
    cases this
  · rw [if_neg q1] at h
    by_cases q2 : 4000 < (comesUpto l e.toNat).length
    · rw [if_pos q2] at h
      have := (Prod.mk.inj (Prod.mk.inj h).1).1
      cases this
    · rw [if_neg q2] at h
      exact ⟨((Prod.mk.inj (Prod.mk.inj h).1).2).symm, (Prod.mk.inj h).2.symm, by omega, by omega⟩

theorem comesF_bad {l : List Ta} {e g1 g2 : Int} {cs : List Co} (h : comesF l e = ((g1, g2), cs)) (hg : g1 ≠ 0) : cs = [] := by
  unfold comesF at h
  by_cases q0 : (chkF l).1 ≠ 0
  · rw [if_pos q0] at h; exact (Prod.mk.inj h).2.symm
  · rw [if_neg q0] at h
    by_cases q1 : e < 0 ∨ 20000 < e
    · rw [if_pos q1] at h; exact (Prod.mk.inj h).2.symm
    · rw [if_neg q1] at h
      by_cases q2 : 4000 < (comesUpto l e.toNat).length
      · rw [if_pos q2] at h; exact (Prod.mk.inj h).2.symm
      · rw [if_neg q2] at h; exact absurd (Prod.mk.inj (Prod.mk.inj h).1).1.symm hg

theorem nought_of {l : List Ta} {e g2 : Int} {cs : List Co} (hX : (chkX l).1 = 0) (h : comesF l e = ((0, g2), cs)) (hf : ∀ k, k < l.length → (Tk l k).d ≤ e ∧ (Tk l k).j = 0 ∧ (Tk l k).o = 0) (ha : ∀ a b, a < b → b < l.length → (Tk l a).p ≠ (Tk l b).p) :
    jobsF l cs (List.replicate cs.length 0) (cs.map (fun c => (Tk l c.k.toNat).c)) = ((0, 0), cs.map (jobOf l)) ∧ Nought l e.toNat cs (cs.map (jobOf l)) := by
  obtain ⟨hck, hDT, hl1, h8, hst, -⟩ := chkX_ok hX
  obtain ⟨rfl, hcs, e0, e1⟩ := comesF_ok h hck
  have hleg := comes_legal h hck
  have hlk := legF_ok (by rw [hleg])
  have hmem : ∀ x ∈ l, ∃ k, k < l.length ∧ Tk l k = x := fun x hx => by
    obtain ⟨k, hk, rfl⟩ := List.getElem_of_mem hx
    exact ⟨k, hk, Tk_at (by simp [hk])⟩
  have hd1 : 1 ≤ e := by
    have := (hf 0 (by omega)).1
    have := (stands_t (stands_mem hst (k := 0) (by omega))).2.2.2.2.1
    omega
  refine ⟨?_, hX, fun x hx => ?_, fun i j hi hj hp => ?_, fun x hx => ?_, hcs, by simp, by rw [hleg], fun n c hn => ?_, fun i hi => ?_⟩
  · unfold jobsF
    rw [if_neg (by rw [hleg]; simp), if_neg (by simp), jobs_all hst cs [] 0 (fun c hc => ⟨(hlk.2.2 c hc).1, (hlk.2.2 c hc).2.1⟩), List.nil_append]
  · obtain ⟨k, hk, rfl⟩ := hmem x hx
    exact ⟨(hf k hk).2.1, (hf k hk).2.2⟩
  · rcases Nat.lt_trichotomy i j with q | q | q
    · exact absurd hp (ha i j q hj)
    · exact q
    · exact absurd hp.symm (ha j i q hi)
  · obtain ⟨k, hk, rfl⟩ := hmem x hx
    have := (hf k hk).1
    omega
  · unfold S8.J
    rw [List.getD_eq_getElem?_getD, List.getElem?_map, hn]
    show jobOf l c = _
    unfold jobOf
    rw [Int.add_zero]
  · obtain ⟨r, q1, -⟩ := comes_split (l := l) 1 (e.toNat - 1)
    rw [show 1 + (e.toNat - 1) = e.toNat by omega] at q1
    have q2 : comesUpto l 1 = hitsFrom 0 l 0 := rfl
    have q3 := hits_all l 0 i (fun x hx => by obtain ⟨k, hk, rfl⟩ := hmem x hx; exact (hf k hk).2.2) hi
    rw [Nat.zero_add] at q3
    rw [hcs, q1, q2, List.getElem?_append_left (List.getElem?_eq_some_iff.1 q3).1]
    exact q3
end Go.Proofs.Ytdligmnboalagaf
