import Derived.Test.YtdligmnboalagafJP
namespace Go.Proofs.Ytdligmnboalagaf
open Go.ChangeShapes Go.WideShapes Go.ChangeAt Go.RowKit

/-- Does a task that comes as soon as it may come then? -/
abbrev hits (x : Ta) (n : Int) : Prop := x.o ≤ n ∧ (n - x.o) % x.t = 0
def hitsFrom (n : Int) : List Ta → Nat → List Co
  | [], _ => []
  | x :: r, i => if hits x n then ⟨(i : Int), n⟩ :: hitsFrom n r (i + 1) else hitsFrom n r (i + 1)
def comesUpto (l : List Ta) : Nat → List Co
  | 0 => []
  | u + 1 => comesUpto l u ++ hitsFrom (u : Int) l 0
def comesF (l : List Ta) (n : Int) : (Int × Int) × List Co := if (chkF l).1 ≠ 0 then (chkF l, []) else if n < 0 ∨ 20000 < n then ((3, 0), []) else if 4000 < (comesUpto l n.toNat).length then ((2, 0), []) else ((0, 0), comesUpto l n.toNat)

theorem hitsFrom_len (n : Int) : ∀ (r : List Ta) (i : Nat), (hitsFrom n r i).length ≤ r.length
  | [], _ => Nat.le_refl _
  | x :: r, i => by
    have := hitsFrom_len n r (i + 1)
    rw [hitsFrom]
    split
    · simp; omega
    · simp; omega

theorem comesUpto_mono (l : List Ta) : ∀ (u d : Nat), (comesUpto l u).length ≤ (comesUpto l (u + d)).length
  | _, 0 => Nat.le_refl _
  | u, d + 1 => by
    have := comesUpto_mono l u d
    rw [← Nat.add_assoc, comesUpto, List.length_append]
    omega

/- How many. -/
def cnt (x : Ta) (u : Int) : Int := if x.o < u then (u - x.o + x.t - 1) / x.t else 0
def cnts : List Ta → Int → Int
  | [], _ => 0
  | x :: r, u => cnt x u + cnts r u

theorem cnt_step {x : Ta} {u : Int} (ht : 1 ≤ x.t) : cnt x (u + 1) = cnt x u + if hits x u then 1 else 0 := by
  unfold cnt
  by_cases h1 : u < x.o
  · rw [if_neg (by omega), if_neg (by omega), if_neg (fun h : hits x u => by have := h.1; omega)]
    rfl
  · rw [if_pos (by omega)]
    by_cases h2 : x.o = u
    · subst h2
      rw [if_neg (by omega), if_pos (show hits x x.o from ⟨Int.le_refl _, by simp⟩), show x.o + 1 - x.o + x.t - 1 = x.t by omega, Int.ediv_self (by omega)]
      rfl
    · rw [if_pos (by omega)]
      obtain ⟨d, hd⟩ : ∃ d, d = u - x.o := ⟨_, rfl⟩
      have e1 : (u + 1 - x.o + x.t - 1) / x.t = d / x.t + 1 := by
        rw [show u + 1 - x.o + x.t - 1 = d + x.t by omega, Int.add_ediv_of_dvd_right (Int.dvd_refl _), Int.ediv_self (by omega)]
      have e2 : (u - x.o + x.t - 1) / x.t = (d - 1) / x.t + 1 := by
        rw [show u - x.o + x.t - 1 = (d - 1) + x.t by omega, Int.add_ediv_of_dvd_right (Int.dvd_refl _), Int.ediv_self (by omega)]
      rw [e1, e2]
      have hq := Int.emod_add_mul_ediv d x.t
      have hr0 := Int.emod_nonneg d (show x.t ≠ 0 by omega)
      have hr1 := Int.emod_lt_of_pos d (show 0 < x.t by omega)
      by_cases h3 : d % x.t = 0
      · rw [if_pos (show hits x u from ⟨by omega, by rw [← hd]; exact h3⟩)]
        have : (d - 1) / x.t = d / x.t - 1 := by
          refine ((Int.ediv_emod_unique (a := d - 1) (b := x.t) (r := x.t - 1) (q := d / x.t - 1) (by omega)).2 ⟨?_, by omega, by omega⟩).1
          rw [Int.mul_sub]
          omega
        omega
      · rw [if_neg (fun h : hits x u => h3 (by rw [hd]; exact h.2))]
        have : (d - 1) / x.t = d / x.t := by
          refine ((Int.ediv_emod_unique (a := d - 1) (b := x.t) (r := d % x.t - 1) (q := d / x.t) (by omega)).2 ⟨?_, by omega, by omega⟩).1
          omega
        omega

theorem cnts_step {u : Int} : ∀ (r : List Ta) (i : Nat), (∀ x ∈ r, stands x = true) → cnts r (u + 1) = cnts r u + ((hitsFrom u r i).length : Int)
  | [], _, _ => rfl
  | x :: r, i, h => by
    have ih := cnts_step (u := u) r (i + 1) (fun y hy => h y (by simp [hy]))
    have h1 := cnt_step (x := x) (u := u) (stands_t (h x (by simp))).1
    rw [cnts, cnts, ih, h1, hitsFrom]
    split
    · simp; omega
    · omega

theorem cnts_zero : ∀ (r : List Ta), (∀ x ∈ r, stands x = true) → cnts r 0 = 0
  | [], _ => rfl
  | x :: r, h => by
    have := stands_t (h x (by simp))
    rw [cnts, cnts_zero r (fun y hy => h y (by simp [hy])), cnt, if_neg (by omega)]
    rfl

theorem cnts_len {l : List Ta} (h : ∀ x ∈ l, stands x = true) : ∀ u : Nat, cnts l (u : Int) = ((comesUpto l u).length : Int)
  | 0 => by rw [show ((0 : Nat) : Int) = 0 from rfl, cnts_zero l h]; rfl
  | u + 1 => by
    have := cnts_len h u
    rw [show ((u + 1 : Nat) : Int) = (u : Int) + 1 by omega, cnts_step l 0 h, this, comesUpto, List.length_append]
    omega

/- They may come so. -/
def Rel (c' c : Co) : Prop := c'.a < c.a ∨ (c'.a = c.a ∧ c'.k < c.k)
def Good (l : List Ta) (c : Co) : Prop := 0 ≤ c.k ∧ c.k < (l.length : Int) ∧ 0 ≤ c.a ∧ c.a ≤ 20000 ∧ hits (l.getD c.k.toNat ta0) c.a

theorem leg_good {l : List Ta} (hl : ∀ x ∈ l, stands x = true) : ∀ (r past : List Co) (i : Nat), (∀ c ∈ r, Good l c) → (∀ c ∈ past, Good l c) → (∀ c' ∈ past, ∀ c ∈ r, Rel c' c) → r.Pairwise Rel → legFrom l past r i = (0, 0)
  | [], _, _, _, _, _, _ => rfl
  | c :: r, past, i, hr, hp, hc, hpw => by
    obtain ⟨g1, g2, g3, g4, g5⟩ := hr c (by simp)
    have h0 : legOne l past c = 0 := by
      unfold legOne
      rw [if_neg (by omega), if_neg (by omega), if_neg]
      refine not_or.2 ⟨?_, ?_⟩
      · cases past with
        | nil => simp [nowOf]; omega
        | cons c' p =>
          have := hc c' (by simp) c (by simp)
          unfold Rel at this
          simp only [nowOf]
          omega
      · unfold soonOf
        cases hf : lastOf past c.k with
        | none => dsimp only; omega
        | some c' =>
          have hm : c' ∈ past := List.mem_of_find?_eq_some hf
          have hk : c'.k = c.k := by have := List.find?_some hf; simpa using this
          have hR := hc c' hm c (by simp)
          obtain ⟨-, -, -, -, q5⟩ := hp c' hm
          rw [hk] at q5
          have hx : l.getD c.k.toNat ta0 ∈ l := by
            have : c.k.toNat < l.length := by omega
            rw [List.getD_eq_getElem?_getD, List.getElem?_eq_getElem this]
            exact List.getElem_mem this
          have ht := stands_t (hl _ hx)
          generalize l.getD c.k.toNat ta0 = x at *
          unfold Rel at hR
          obtain ⟨-, m1⟩ := g5
          obtain ⟨-, m2⟩ := q5
          have d1 : x.t ∣ c.a - x.o := Int.dvd_of_emod_eq_zero m1
          have d2 : x.t ∣ c'.a - x.o := Int.dvd_of_emod_eq_zero m2
          have d3 : x.t ∣ c.a - c'.a := by
            have := Int.dvd_sub d1 d2
            rwa [show c.a - x.o - (c'.a - x.o) = c.a - c'.a by omega] at this
          have := Int.le_of_dvd (by omega) d3
          dsimp only
          omega
    rw [legFrom, if_pos h0]
    rw [List.pairwise_cons] at hpw
    refine leg_good hl r (c :: past) (i + 1) (fun z hz => hr z (by simp [hz])) ?_ ?_ hpw.2
    · intro z hz
      rcases List.mem_cons.1 hz with rfl | hz
      · exact hr _ (by simp)
      · exact hp z hz
    · intro z hz y hy
      rcases List.mem_cons.1 hz with rfl | hz
      · exact hpw.1 y hy
      · exact hc z hz y (by simp [hy])

theorem hits_mem {n : Int} : ∀ (r : List Ta) (i : Nat) (c : Co), c ∈ hitsFrom n r i → c.a = n ∧ ∃ (j : Nat) (x : Ta), r[j]? = some x ∧ c.k = (i : Int) + j ∧ hits x n
  | [], _, _, h => by simp [hitsFrom] at h
  | x :: r, i, c, h => by
    rw [hitsFrom] at h
    have key : c ∈ hitsFrom n r (i + 1) → c.a = n ∧ ∃ (j : Nat) (y : Ta), (x :: r)[j]? = some y ∧ c.k = (i : Int) + j ∧ hits y n := fun h => by
      obtain ⟨h1, j, y, h2, h3, h4⟩ := hits_mem r (i + 1) c h
      exact ⟨h1, j + 1, y, by simpa using h2, by omega, h4⟩
    split at h
    · rename_i hx
      rcases List.mem_cons.1 h with rfl | h
      · exact ⟨rfl, 0, x, rfl, by simp, hx⟩
      · exact key h
    · exact key h

theorem hits_pair {n : Int} : ∀ (r : List Ta) (i : Nat), (hitsFrom n r i).Pairwise Rel
  | [], _ => List.Pairwise.nil
  | x :: r, i => by
    rw [hitsFrom]
    split
    · refine List.Pairwise.cons (fun c hc => ?_) (hits_pair r (i + 1))
      obtain ⟨h1, j, y, -, h3, -⟩ := hits_mem r (i + 1) c hc
      exact .inr ⟨h1.symm, by dsimp only; omega⟩
    · exact hits_pair r (i + 1)

theorem comes_mem {l : List Ta} : ∀ (u : Nat) (c : Co), c ∈ comesUpto l u → c.a < (u : Int) ∧ 0 ≤ c.a ∧ 0 ≤ c.k ∧ c.k < (l.length : Int) ∧ hits (l.getD c.k.toNat ta0) c.a
  | 0, c, h => by simp [comesUpto] at h
  | u + 1, c, h => by
    rw [comesUpto, List.mem_append] at h
    rcases h with h | h
    · have := comes_mem u c h
      refine ⟨by omega, this.2⟩
    · obtain ⟨h1, j, x, h2, h3, h4⟩ := hits_mem l 0 c h
      have hj : j < l.length := (List.getElem?_eq_some_iff.1 h2).1
      refine ⟨by omega, by omega, by omega, by omega, ?_⟩
      rw [h1, show c.k.toNat = j by omega, List.getD_eq_getElem?_getD, h2]
      exact h4

theorem comes_pair {l : List Ta} : ∀ u : Nat, (comesUpto l u).Pairwise Rel
  | 0 => List.Pairwise.nil
  | u + 1 => by
    rw [comesUpto, List.pairwise_append]
    refine ⟨comes_pair u, hits_pair l 0, fun a ha b hb => ?_⟩
    have h1 := (comes_mem u a ha).1
    have h2 := (hits_mem l 0 b hb).1
    exact .inl (by omega)

theorem comes_legal {l : List Ta} {n : Int} {cs : List Co} (h : comesF l n = ((0, 0), cs)) (h0 : (chkF l).1 = 0) : legF l cs = (0, 0) := by
  unfold comesF at h
  rw [if_neg (by simpa using h0)] at h
  by_cases h1 : n < 0 ∨ 20000 < n
  · rw [if_pos h1] at h; simp at h
  · rw [if_neg h1] at h
    by_cases h2 : 4000 < (comesUpto l n.toNat).length
    · rw [if_pos h2] at h; simp at h
    · rw [if_neg h2] at h
      simp only [Prod.mk.injEq, true_and] at h
      subst h
      unfold legF
      rw [if_neg (by simpa using h0), if_neg h2]
      refine leg_good (chkF_ok h0).2.2 _ _ _ (fun c hc => ?_) (fun c hc => by simp at hc) (fun c hc => by simp at hc) (comes_pair _)
      have := comes_mem _ c hc
      exact ⟨this.2.2.1, this.2.2.2.1, this.2.1, by omega, this.2.2.2.2⟩
end Go.Proofs.Ytdligmnboalagaf
