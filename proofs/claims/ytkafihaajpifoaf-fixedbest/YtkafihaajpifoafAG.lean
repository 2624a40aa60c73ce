import Derived.Test.YtkafihaajpifoafAF
namespace Go.Proofs.Ytkafihaajpifoaf
open Go.ChangeShapes Go.WideShapes Go.ChangeAt Go.RowKit Go.Sort

/- Sorting by insertion leaves equals as they were: by the key, then by the place. -/
def ltK (key : Nat → Int) (x y : Nat) : Bool := decide (key x < key y)
def ltS (key : Nat → Int) (x y : Nat) : Bool := decide (key x < key y ∨ (key x = key y ∧ x < y))

theorem ltS_swo (key : Nat → Int) : SWO (ltS key) := by
  refine ⟨fun x => by unfold ltS; simp, fun x y z h1 h2 => by unfold ltS at *; simp at *; omega, fun x y z h1 h2 => by unfold ltS at *; simp at *; omega⟩

theorem ltK_eq {key : Nat → Int} {x y : Nat} (h : y < x) : ltK key x y = ltS key x y := by
  unfold ltK ltS
  congr 1
  apply propext
  constructor
  · intro h1; exact .inl h1
  · rintro (h1 | ⟨-, h1⟩)
    · exact h1
    · omega

theorem inner_eq {key : Nat → Int} : ∀ (j : Nat) (d : Array Nat), j < d.size → (∀ p, p < j → d[p]! < d[j]!) → insInner (ltK key) 0 j d = insInner (ltS key) 0 j d
  | 0, d, _, _ => by unfold insInner; simp
  | j + 1, d, hs, h => by
    unfold insInner
    rw [ltK_eq (h j (by omega))]
    split
    · have g := swp_get d hs (show j < d.size by omega)
      refine inner_eq j _ (by rw [swp_size]; omega) (fun p hp => ?_)
      rw [g, g]
      rw [if_neg (by omega), if_neg (by omega), if_pos rfl]
      exact h p (by omega)
    · rfl

theorem inner_keep {lt : Nat → Nat → Bool} {M : Nat} : ∀ (j : Nat) (d : Array Nat), j < d.size → (∀ p, p ≤ j → d[p]! < M) → (insInner lt 0 j d).size = d.size ∧ (∀ p, p ≤ j → (insInner lt 0 j d)[p]! < M) ∧ ∀ p, j < p → (insInner lt 0 j d)[p]! = d[p]!
  | 0, d, _, h => by unfold insInner; simp; exact h 0 (Nat.le_refl _)
  | j + 1, d, hs, h => by
    unfold insInner
    split
    · have g := swp_get d hs (show j < d.size by omega)
      obtain ⟨h1, h2, h3⟩ := inner_keep (lt := lt) (M := M) j (swp d (j + 1) j) (by rw [swp_size]; omega) (fun p hp => by
        rw [g]
        split
        · exact h _ (Nat.le_refl _)
        · rw [if_neg (by omega)]; exact h p (by omega))
      refine ⟨by rw [h1, swp_size], fun p hp => ?_, fun p hp => ?_⟩
      · by_cases e : p = j + 1
        · rw [h3 p (by omega), g, if_neg (by omega), if_pos e]
          exact h j (by omega)
        · exact h2 p (by omega)
      · rw [h3 p (by omega), g, if_neg (by omega), if_neg (by omega)]
    · exact ⟨rfl, h, fun _ _ => rfl⟩

theorem outer_eq {key : Nat → Int} {b : Nat} : ∀ (n i : Nat) (d : Array Nat), b - i = n → b ≤ d.size → (∀ p, p < i → d[p]! < i) → (∀ p, i ≤ p → p < b → d[p]! = p) → insOuter (ltK key) 0 b i d = insOuter (ltS key) 0 b i d
  | 0, i, d, hn, _, _, _ => by rw [insOuter, if_neg (by omega), insOuter, if_neg (by omega)]
  | n + 1, i, d, hn, hb, h1, h2 => by
    have hlt : i < b := by omega
    have a1 : insOuter (ltK key) 0 b i d = insOuter (ltK key) 0 b (i + 1) (insInner (ltK key) 0 i d) := by rw [insOuter, if_pos hlt]
    have a2 : insOuter (ltS key) 0 b i d = insOuter (ltS key) 0 b (i + 1) (insInner (ltS key) 0 i d) := by rw [insOuter, if_pos hlt]
    rw [a1, a2]
    have hi := h2 i (Nat.le_refl _) hlt
    rw [inner_eq i d (by omega) (fun p hp => by rw [hi]; exact h1 p hp)]
    obtain ⟨k1, k2, k3⟩ := inner_keep (lt := ltS key) (M := i + 1) i d (by omega) (fun p hp => by
      by_cases e : p = i
      · rw [e, hi]; omega
      · have := h1 p (by omega); omega)
    exact outer_eq n (i + 1) _ (by omega) (by omega) (fun p hp => k2 p (by omega)) (fun p hp hpb => by rw [k3 p (by omega)]; exact h2 p (by omega) hpb)

theorem range_get {n p : Nat} (h : p < n) : (List.range n).toArray[p]! = p := by
  rw [getElem!_pos _ p (by simpa using h)]
  simp

/-- In order, one behind the other. -/
def InOrd (key : Nat → Int) (n : Nat) (od : List Nat) : Prop := od.Perm (List.range n) ∧ od.Pairwise (fun x y => key x < key y ∨ (key x = key y ∧ x < y))

theorem sort_inOrd (key : Nat → Int) (n : Nat) : InOrd key n (insertionSort (ltK key) (List.range n).toArray 0 n).toList := by
  have e : insertionSort (ltK key) (List.range n).toArray 0 n = insertionSort (ltS key) (List.range n).toArray 0 n := by
    unfold insertionSort
    refine outer_eq (n - (0 + 1)) _ _ rfl (by simp) (fun p hp => ?_) (fun p hp hpb => range_get hpb)
    by_cases h : p < n
    · rw [range_get h]; omega
    · have : n = 0 := by omega
      subst this
      have hp0 : p = 0 := by omega
      subst hp0
      simp
  rw [e]
  obtain ⟨h1, h2⟩ := insertionSort_holds (lt := ltS key) (ltS_swo key) (List.range n).toArray 0 n (Nat.zero_le _) (by simp)
  have hsz : (List.range n).toArray.size = n := by simp
  obtain ⟨q1, -, q2⟩ := h1
  have q1' : (insertionSort (ltS key) (List.range n).toArray 0 n).size = n := by rw [q1]; exact hsz
  have hp : (insertionSort (ltS key) (List.range n).toArray 0 n).toList.Perm (List.range n) := by
    have e1 : (insertionSort (ltS key) (List.range n).toArray 0 n).extract 0 n = insertionSort (ltS key) (List.range n).toArray 0 n := by
      have := Array.extract_size (xs := insertionSort (ltS key) (List.range n).toArray 0 n)
      rwa [q1'] at this
    have e2 : ((List.range n).toArray).extract 0 n = (List.range n).toArray := by
      have := Array.extract_size (xs := (List.range n).toArray)
      rwa [hsz] at this
    rw [e1, e2] at q2
    simpa using q2
  refine ⟨hp, ?_⟩
  have hnd : (insertionSort (ltS key) (List.range n).toArray 0 n).toList.Nodup := hp.nodup_iff.2 List.nodup_range
  rw [List.pairwise_iff_getElem]
  intro i j hi hj hij
  have hi' : i < (insertionSort (ltS key) (List.range n).toArray 0 n).size := by simpa using hi
  have hj' : j < (insertionSort (ltS key) (List.range n).toArray 0 n).size := by simpa using hj
  have h3 := h2 i j (Nat.zero_le _) hij (by omega)
  rw [getElem!_pos _ i hi', getElem!_pos _ j hj'] at h3
  have hne := List.pairwise_iff_getElem.1 hnd i j hi hj hij
  simp only [Array.getElem_toList] at hne ⊢
  have h4 := of_decide_eq_false h3
  generalize (insertionSort (ltS key) (List.range n).toArray 0 n)[i] = u at *
  generalize (insertionSort (ltS key) (List.range n).toArray 0 n)[j] = v at *
  omega

/- Giving priorities in that order. -/
def rkF (l : List Ta) : List Nat → Nat → List Ta → List Ta
  | [], _, out => out
  | i :: r, p, out => rkF l r (p + 1) (setP out i ((l.length : Int) - (p : Int)))

theorem rkF_at {l : List Ta} {od : List Nat} {j i : Nat} {out : List Ta} (h : od.drop j = i :: od.drop (j + 1)) : rkF l (od.drop j) j out = rkF l (od.drop (j + 1)) (j + 1) (setP out i ((l.length : Int) - (j : Int))) := by rw [h, rkF]

theorem rkF_spec {l : List Ta} {od : List Nat} (hnd : od.Nodup) (hm : ∀ i ∈ od, i < l.length) : ∀ (r d : List Nat) (out : List Ta), od = d ++ r → out.length = l.length → (∀ k, k < l.length → SameT (Tk out k) (Tk l k)) → (∀ (q i : Nat), d[q]? = some i → (Tk out i).p = (l.length : Int) - (q : Int)) →
    (rkF l r d.length out).length = l.length ∧ (∀ k, k < l.length → SameT (Tk (rkF l r d.length out) k) (Tk l k)) ∧ ∀ (q i : Nat), od[q]? = some i → (Tk (rkF l r d.length out) i).p = (l.length : Int) - (q : Int)
  | [], d, out, ho, h1, h2, h3 => by
    rw [rkF]
    refine ⟨h1, h2, fun q i hq => h3 q i ?_⟩
    rw [ho, List.append_nil] at hq
    exact hq
  | i :: r, d, out, ho, h1, h2, h3 => by
    have hi : i < l.length := hm i (by rw [ho]; simp)
    have hio : i < out.length := by omega
    have hTk := fun k p => Tk_set (out := out) (i := i) (k := k) (p := p) hio
    rw [rkF, show d.length + 1 = (d ++ [i]).length by simp]
    refine rkF_spec hnd hm r (d ++ [i]) _ (by rw [ho]; simp) (by unfold setP; simpa using h1) (fun k hk => ?_) (fun q k hq => ?_)
    · rw [hTk]
      by_cases e : k = i
      · subst e
        rw [if_pos rfl]
        exact h2 k hk
      · rw [if_neg e]; exact h2 k hk
    · rw [hTk]
      by_cases hqd : q < d.length
      · rw [List.getElem?_append_left hqd] at hq
        have hne : k ≠ i := fun e => by
          subst e
          rw [ho] at hnd
          have := List.nodup_append.1 hnd
          exact this.2.2 k (List.mem_of_getElem? hq) k (by simp) rfl
        rw [if_neg hne]
        exact h3 q k hq
      · rw [List.getElem?_append_right (by omega)] at hq
        have : q - d.length = 0 := by
          apply Classical.byContradiction
          intro hc
          rw [List.getElem?_eq_none (by simp; omega)] at hq
          cases hq
        rw [this] at hq
        simp at hq
        subst hq
        rw [if_pos rfl]
        show (l.length : Int) - _ = _
        omega

/-- What Deadlines gives. -/
theorem ranks_of {l : List Ta} {od : List Nat} (h : InOrd (fun k => (Tk l k).d) l.length od) : (rkF l od 0 l).length = l.length ∧ (∀ k, k < l.length → SameT (Tk (rkF l od 0 l) k) (Tk l k)) ∧ ∀ i k, i < l.length → k < l.length → k ≠ i → ((Tk (rkF l od 0 l) i).p ≤ (Tk (rkF l od 0 l) k).p ↔ dueA l i k = true) := by
  obtain ⟨hp, hs⟩ := h
  have hnd : od.Nodup := hp.nodup_iff.2 List.nodup_range
  have hm : ∀ i ∈ od, i < l.length := fun i hi => by simpa using hp.mem_iff.1 hi
  obtain ⟨h1, h2, h3⟩ := rkF_spec (l := l) hnd hm od [] l rfl rfl (fun k _ => ⟨rfl, rfl, rfl, rfl, rfl, rfl⟩) (fun q i hq => by simp at hq)
  refine ⟨h1, h2, fun i k hi hk hne => ?_⟩
  obtain ⟨qi, hqi, ei⟩ := List.getElem_of_mem (hp.mem_iff.2 (List.mem_range.2 hi))
  obtain ⟨qk, hqk, ek⟩ := List.getElem_of_mem (hp.mem_iff.2 (List.mem_range.2 hk))
  have p1 := h3 qi i (by rw [List.getElem?_eq_getElem hqi, ei])
  have p2 := h3 qk k (by rw [List.getElem?_eq_getElem hqk, ek])
  rw [List.length_nil] at p1 p2
  rw [p1, p2]
  have hqq : qi ≠ qk := fun e => by
    subst e
    exact hne (ek.symm.trans ei)
  have hpw := List.pairwise_iff_getElem.1 hs
  unfold dueA
  rw [decide_eq_true_eq]
  constructor
  · intro hle
    have := hpw qk qi hqk hqi (by omega)
    rw [ei, ek] at this
    exact this
  · intro hd
    apply Classical.byContradiction
    intro hc
    have := hpw qi qk hqi hqk (by omega)
    rw [ei, ek] at this
    dsimp only at this
    omega

end Go.Proofs.Ytkafihaajpifoaf
