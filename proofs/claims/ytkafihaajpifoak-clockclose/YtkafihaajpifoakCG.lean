import Derived.Test.YtkafihaajpifoakCR
namespace Go.Proofs.Ytkafihaajpifoak
open Go.ChangeShapes Go.WideShapes Go.ChangeAt Go.RowKit Go.Sort

theorem srt4 : srt [10, 12, 11, 1000] = [10, 11, 12, 1000] := by simp [srt, List.mergeSort, List.MergeSort.Internal.splitInTwo]
theorem mid4 : midF [10, 12, 11, 1000] 1 = (11, 0) := by
  unfold midF
  rw [srt4]
  decide

set_option maxRecDepth 20000 in
set_option maxHeartbeats 1000000 in
theorem middle_any (w : World) : Calls Try.prog 4 #[] w fun r w' => r = .returned (.bool true) ∧ Below w.heap.size w w' := by
  have hr : RowSl nuV (w.alloc (.cells #[.int .i64 10, .int .i64 12, .int .i64 11, .int .i64 1000] 3)) [10, 12, 11, 1000] (.slice (some ⟨w.heap.size, 0, none⟩) 4 4) := row_new (f := nuV) w [10, 12, 11, 1000] 4 #[.int .i64 10, .int .i64 12, .int .i64 11, .int .i64 1000] 3 rfl rfl
  have HM := Middle_any _ _ 1 _ hr
  rw [mid4] at HM
  dsimp only at HM
  clear hr
  go_enter Try.func4, Try.ntmps4
  go_wp2_with (go_at_call 9; refine HM.mono ?_; rintro r w1 ⟨rfl, hb1⟩; have H1 : Hid (Below w.heap.size w w1) := below_seq (below_new _ _) hb1; clear hb1 HM)
  go_ret
  exact ⟨rfl, H1.out⟩

/-- The (k + 1)-th least is no more than c if so many are no more. -/
theorem kth_le {s : List Int} (hs : s.Pairwise (fun x y => x ≤ y)) {k : Nat} {c : Int} (hk : k < s.length) (h : k + 1 ≤ s.countP (fun x => decide (x ≤ c))) : s.getD k 0 ≤ c := by
  apply Classical.byContradiction
  intro hn
  have hd : (s.drop k).countP (fun x => decide (x ≤ c)) = 0 := by
    rw [List.countP_eq_zero]
    intro x hx
    obtain ⟨i, hi, rfl⟩ := List.getElem_of_mem hx
    rw [List.length_drop] at hi
    rw [List.getElem_drop]
    have e1 : s.getD k 0 = s[k] := by rw [List.getD_eq_getElem?_getD, List.getElem?_eq_getElem hk]; rfl
    rw [e1] at hn
    have h2 : s[k] ≤ s[k + i] := by
      by_cases h0 : i = 0
      · subst h0; exact Int.le_refl _
      · exact List.pairwise_iff_getElem.1 hs k (k + i) hk (by omega) (by omega)
    simp
    omega
  have h3 : (s.take k).countP (fun x => decide (x ≤ c)) ≤ k := Nat.le_trans List.countP_le_length (by rw [List.length_take]; omega)
  have h4 : s.countP (fun x => decide (x ≤ c)) = (s.take k).countP (fun x => decide (x ≤ c)) + (s.drop k).countP (fun x => decide (x ≤ c)) := by
    rw [← List.countP_append, List.take_append_drop]
  omega

theorem le_kth {s : List Int} (hs : s.Pairwise (fun x y => x ≤ y)) {k : Nat} {c : Int} (hk : k < s.length) (h : s.length ≤ k + s.countP (fun x => decide (c ≤ x))) : c ≤ s.getD k 0 := by
  apply Classical.byContradiction
  intro hn
  have hd : (s.take (k + 1)).countP (fun x => decide (c ≤ x)) = 0 := by
    rw [List.countP_eq_zero]
    intro x hx
    obtain ⟨i, hi, rfl⟩ := List.getElem_of_mem hx
    rw [List.length_take] at hi
    rw [List.getElem_take]
    have e1 : s.getD k 0 = s[k] := by rw [List.getD_eq_getElem?_getD, List.getElem?_eq_getElem hk]; rfl
    rw [e1] at hn
    have h2 : s[i] ≤ s[k] := by
      by_cases h0 : i = k
      · subst h0; exact Int.le_refl _
      · exact List.pairwise_iff_getElem.1 hs i k (by omega) hk (by omega)
    simp
    omega
  have h3 : (s.drop (k + 1)).countP (fun x => decide (c ≤ x)) ≤ s.length - (k + 1) := Nat.le_trans List.countP_le_length (by rw [List.length_drop]; omega)
  have h4 : s.countP (fun x => decide (c ≤ x)) = (s.take (k + 1)).countP (fun x => decide (c ≤ x)) + (s.drop (k + 1)).countP (fun x => decide (c ≤ x)) := by
    rw [← List.countP_append, List.take_append_drop]
  omega

theorem kth_many {s : List Int} (hs : s.Pairwise (fun x y => x ≤ y)) {k : Nat} (hk : k < s.length) : k + 1 ≤ s.countP (fun x => decide (x ≤ s.getD k 0)) ∧ s.length ≤ k + s.countP (fun x => decide (s.getD k 0 ≤ x)) := by
  have e1 : s.getD k 0 = s[k] := by rw [List.getD_eq_getElem?_getD, List.getElem?_eq_getElem hk]; rfl
  rw [e1]
  constructor
  · have h1 : (s.take (k + 1)).countP (fun x => decide (x ≤ s[k])) = (s.take (k + 1)).length := by
      rw [List.countP_eq_length]
      intro x hx
      obtain ⟨i, hi, rfl⟩ := List.getElem_of_mem hx
      rw [List.length_take] at hi
      rw [List.getElem_take]
      have h2 : s[i] ≤ s[k] := by
        by_cases h0 : i = k
        · subst h0; exact Int.le_refl _
        · exact List.pairwise_iff_getElem.1 hs i k (by omega) hk (by omega)
      simpa using h2
    have h3 := (List.take_sublist (k + 1) s).countP_le (p := fun x => decide (x ≤ s[k]))
    rw [h1, List.length_take] at h3
    omega
  · have h1 : (s.drop k).countP (fun x => decide (s[k] ≤ x)) = (s.drop k).length := by
      rw [List.countP_eq_length]
      intro x hx
      obtain ⟨i, hi, rfl⟩ := List.getElem_of_mem hx
      rw [List.length_drop] at hi
      rw [List.getElem_drop]
      have h2 : s[k] ≤ s[k + i] := by
        by_cases h0 : i = 0
        · subst h0; exact Int.le_refl _
        · exact List.pairwise_iff_getElem.1 hs k (k + i) hk (by omega) (by omega)
      simpa using h2
    have h3 := (List.drop_sublist k s).countP_le (p := fun x => decide (s[k] ≤ x))
    rw [h1, List.length_drop] at h3
    omega

theorem kth_sorted {s : List Int} (hs : s.Pairwise (fun x y => x ≤ y)) {i k : Nat} (hik : i ≤ k) (hk : k < s.length) : s.getD i 0 ≤ s.getD k 0 := by
  rw [List.getD_eq_getElem?_getD, List.getD_eq_getElem?_getD, List.getElem?_eq_getElem hk, List.getElem?_eq_getElem (show i < s.length by omega)]
  show s[i] ≤ s[k]
  by_cases h : i = k
  · subst h; exact Int.le_refl _
  · exact List.pairwise_iff_getElem.1 hs i k (by omega) hk (by omega)

theorem srt_sorted (xs : List Int) : (srt xs).Pairwise (fun x y => x ≤ y) := by
  have := List.pairwise_mergeSort (le := fun x y : Int => decide (x ≤ y)) (fun a b c h1 h2 => by simp at *; omega) (fun a b => by simp; omega) xs
  exact this.imp (fun h => by simpa using h)

/-- So many of the first g are so. -/
theorem count_first {x : List Int} {g : Nat} (hg : g ≤ x.length) {P Q : Int → Bool} {t : Nat → Int} (h : ∀ j, j < g → P (t j) = true → Q (x.getD j 0) = true) : ((List.range g).map t).countP P ≤ x.countP Q := by
  have e1 : (List.range g).map (fun j => x.getD j 0) = x.take g := by
    apply List.ext_getElem
    · simp; omega
    · intro i h1 h2
      simp at h1
      simp [List.getElem?_eq_getElem (show i < x.length by omega)]
  have h2 : ((List.range g).map t).countP P ≤ ((List.range g).map (fun j => x.getD j 0)).countP Q := by
    rw [List.countP_map, List.countP_map]
    apply List.countP_mono_left
    intro j hj hp
    exact h j (List.mem_range.1 hj) hp
  rw [e1] at h2
  exact Nat.le_trans h2 ((List.take_sublist g x).countP_le)

/-- One that so many are no more than, and no less than. -/
theorem pivot {g f : Nat} (h : 2 * f + 1 ≤ g) (t : Nat → Int) : ∃ p, f + 1 ≤ ((List.range g).map t).countP (fun x => decide (x ≤ p)) ∧ f + 1 ≤ ((List.range g).map t).countP (fun x => decide (p ≤ x)) := by
  have hl : (srt ((List.range g).map t)).length = g := by rw [srt_len]; simp
  obtain ⟨h1, h2⟩ := kth_many (srt_sorted ((List.range g).map t)) (k := f) (by omega)
  refine ⟨(srt ((List.range g).map t)).getD f 0, ?_, ?_⟩
  · rw [(srt_perm _).countP_eq] at h1; exact h1
  · rw [(srt_perm ((List.range g).map t)).countP_eq, hl] at h2; omega

/-- What is left of what was heard, at either end. -/
theorem ends_in {x : List Int} {n f : Nat} {t : Nat → Int} {e lo hi p : Int} (hx : x.length = n) (hn : 3 * f + 1 ≤ n) (hj : ∀ j, j < n - f → t j - e ≤ x.getD j 0 ∧ x.getD j 0 ≤ t j + e) (hlo : ∀ j, j < n - f → lo ≤ t j) (hhi : ∀ j, j < n - f → t j ≤ hi)
    (p1 : f + 1 ≤ ((List.range (n - f)).map t).countP (fun x => decide (x ≤ p))) (p2 : f + 1 ≤ ((List.range (n - f)).map t).countP (fun x => decide (p ≤ x))) :
    lo - e ≤ (srt x).getD f 0 ∧ (srt x).getD f 0 ≤ p + e ∧ p - e ≤ (srt x).getD (n - 1 - f) 0 ∧ (srt x).getD (n - 1 - f) 0 ≤ hi + e := by
  have hl : (srt x).length = n := by rw [srt_len]; exact hx
  have hall : ∀ Q : Int → Bool, (∀ j, j < n - f → Q (x.getD j 0) = true) → n - f ≤ x.countP Q := fun Q hQ => by
    have := count_first (x := x) (g := n - f) (by omega) (P := fun _ => true) (Q := Q) (t := t) (fun j h _ => hQ j h)
    simpa using this
  refine ⟨?_, ?_, ?_, ?_⟩
  · refine le_kth (srt_sorted x) (by omega) ?_
    rw [(srt_perm x).countP_eq, hl]
    have := hall (fun y => decide (lo - e ≤ y)) (fun j h => decide_eq_true (by have := hj j h; have := hlo j h; omega))
    omega
  · refine kth_le (srt_sorted x) (by omega) ?_
    rw [(srt_perm x).countP_eq]
    exact Nat.le_trans p1 (count_first (by omega) (fun j h hp => decide_eq_true (by have := hj j h; have := of_decide_eq_true hp; omega)))
  · refine le_kth (srt_sorted x) (by omega) ?_
    rw [(srt_perm x).countP_eq, hl]
    have := Nat.le_trans p2 (count_first (x := x) (g := n - f) (by omega) (Q := fun y => decide (p - e ≤ y)) (fun j h hp => decide_eq_true (by have := hj j h; have := of_decide_eq_true hp; omega)))
    omega
  · refine kth_le (srt_sorted x) (by omega) ?_
    rw [(srt_perm x).countP_eq]
    have := hall (fun y => decide (y ≤ hi + e)) (fun j h => decide_eq_true (by have := hj j h; have := hhi j h; omega))
    omega

/-- Two middles of what was heard of the same clocks. -/
theorem mids_close {x y : List Int} {n f : Nat} {t : Nat → Int} {e lo hi : Int} (hx : x.length = n) (hy : y.length = n) (hn : 3 * f + 1 ≤ n) (hj : ∀ j, j < n - f → t j - e ≤ x.getD j 0 ∧ x.getD j 0 ≤ t j + e) (hj' : ∀ j, j < n - f → t j - e ≤ y.getD j 0 ∧ y.getD j 0 ≤ t j + e) (hlo : ∀ j, j < n - f → lo ≤ t j) (hhi : ∀ j, j < n - f → t j ≤ hi) :
    ((srt x).getD f 0 + (srt x).getD (n - 1 - f) 0) / 2 - ((srt y).getD f 0 + (srt y).getD (n - 1 - f) 0) / 2 ≤ (hi - lo + 4 * e + 1) / 2 ∧ lo - e ≤ ((srt x).getD f 0 + (srt x).getD (n - 1 - f) 0) / 2 ∧ ((srt x).getD f 0 + (srt x).getD (n - 1 - f) 0) / 2 ≤ hi + e := by
  obtain ⟨p, p1, p2⟩ := pivot (g := n - f) (f := f) (by omega) t
  obtain ⟨a1, a2, a3, a4⟩ := ends_in hx hn hj hlo hhi p1 p2
  obtain ⟨b1, b2, b3, b4⟩ := ends_in hy hn hj' hlo hhi p1 p2
  have h0 := hlo 0 (by omega)
  have h1 := hhi 0 (by omega)
  have s1 : lo - e ≤ (srt x).getD (n - 1 - f) 0 := by
    have := kth_sorted (srt_sorted x) (i := f) (k := n - 1 - f) (by omega) (by rw [srt_len]; omega)
    omega
  have s2 : (srt x).getD f 0 ≤ hi + e := by
    have := kth_sorted (srt_sorted x) (i := f) (k := n - 1 - f) (by omega) (by rw [srt_len]; omega)
    omega
  refine ⟨by omega, by omega, by omega⟩
end Go.Proofs.Ytkafihaajpifoak
