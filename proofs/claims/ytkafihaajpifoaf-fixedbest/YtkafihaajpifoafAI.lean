import Derived.Test.YtkafihaajpifoafAH
namespace Go.Proofs.Ytkafihaajpifoaf
open Go.ChangeShapes Go.WideShapes Go.ChangeAt Go.RowKit Go.Sort

/- Sorting by insertion leaves equals as they were: by the key, then by the place. -/
def ltKA {α : Type} (val : α → Nat) (key : Nat → Int) (x y : α) : Bool := decide (key (val x) < key (val y))
def ltSA {α : Type} (val : α → Nat) (key : Nat → Int) (x y : α) : Bool := decide (key (val x) < key (val y) ∨ (key (val x) = key (val y) ∧ val x < val y))

theorem ltSA_swo {α : Type} (val : α → Nat) (key : Nat → Int) : SWO (ltSA val key) := by
  refine ⟨fun x => by unfold ltSA; simp, fun x y z h1 h2 => by unfold ltSA at *; simp at *; omega, fun x y z h1 h2 => by unfold ltSA at *; simp at *; omega⟩

theorem ltKA_eq {α : Type} {val : α → Nat} {key : Nat → Int} {x y : α} (h : val y < val x) : ltKA val key x y = ltSA val key x y := by
  unfold ltKA ltSA
  congr 1
  apply propext
  constructor
  · intro h1; exact .inl h1
  · rintro (h1 | ⟨-, h1⟩)
    · exact h1
    · omega

theorem inner_eqA {α : Type} [Inhabited α] {val : α → Nat} {key : Nat → Int} : ∀ (j : Nat) (d : Array α), j < d.size → (∀ p, p < j → val d[p]! < val d[j]!) → insInner (ltKA val key) 0 j d = insInner (ltSA val key) 0 j d
  | 0, d, _, _ => by unfold insInner; simp
  | j + 1, d, hs, h => by
    unfold insInner
    rw [ltKA_eq (h j (by omega))]
    split
    · have g := swp_get d hs (show j < d.size by omega)
      refine inner_eqA j _ (by rw [swp_size]; omega) (fun p hp => ?_)
      rw [g, g]
      rw [if_neg (by omega), if_neg (by omega), if_pos rfl]
      exact h p (by omega)
    · rfl

theorem inner_keepA {α : Type} [Inhabited α] {val : α → Nat} {lt : α → α → Bool} {M : Nat} : ∀ (j : Nat) (d : Array α), j < d.size → (∀ p, p ≤ j → val d[p]! < M) → (insInner lt 0 j d).size = d.size ∧ (∀ p, p ≤ j → val (insInner lt 0 j d)[p]! < M) ∧ ∀ p, j < p → (insInner lt 0 j d)[p]! = d[p]!
  | 0, d, _, h => by unfold insInner; exact ⟨rfl, h, fun _ _ => rfl⟩
  | j + 1, d, hs, h => by
    unfold insInner
    split
    · have g := swp_get d hs (show j < d.size by omega)
      obtain ⟨h1, h2, h3⟩ := inner_keepA (val := val) (lt := lt) (M := M) j (swp d (j + 1) j) (by rw [swp_size]; omega) (fun p hp => by
        rw [g]
        split
        · exact h _ (Nat.le_refl _)
        · rw [if_neg (by omega)]; exact h p (by omega))
      refine ⟨by rw [h1, swp_size], fun p hp => ?_, fun p hp => ?_⟩
      · by_cases e : p = j + 1
        · rw [h3 p (by omega), g, if_neg (by omega), if_pos e]
          exact h j (by omega)
        · exact h2 p (by omega)
      · rw [h3 p (by omega), g, if_neg (by omega), if_neg (by omega)]
    · exact ⟨rfl, h, fun _ _ => rfl⟩

theorem outer_eqA {α : Type} [Inhabited α] {val : α → Nat} {key : Nat → Int} {b : Nat} : ∀ (n i : Nat) (d : Array α), b - i = n → b ≤ d.size → (∀ p, p < i → val d[p]! < i) → (∀ p, i ≤ p → p < b → val d[p]! = p) → insOuter (ltKA val key) 0 b i d = insOuter (ltSA val key) 0 b i d
  | 0, i, d, hn, _, _, _ => by rw [insOuter, if_neg (by omega), insOuter, if_neg (by omega)]
  | n + 1, i, d, hn, hb, h1, h2 => by
    have hlt : i < b := by omega
    have a1 : insOuter (ltKA val key) 0 b i d = insOuter (ltKA val key) 0 b (i + 1) (insInner (ltKA val key) 0 i d) := by rw [insOuter, if_pos hlt]
    have a2 : insOuter (ltSA val key) 0 b i d = insOuter (ltSA val key) 0 b (i + 1) (insInner (ltSA val key) 0 i d) := by rw [insOuter, if_pos hlt]
    rw [a1, a2]
    have hi := h2 i (Nat.le_refl _) hlt
    rw [inner_eqA i d (by omega) (fun p hp => by rw [hi]; exact h1 p hp)]
    obtain ⟨k1, k2, k3⟩ := inner_keepA (val := val) (lt := ltSA val key) (M := i + 1) i d (by omega) (fun p hp => by
      by_cases e : p = i
      · rw [e, hi]; omega
      · have := h1 p (by omega); omega)
    exact outer_eqA n (i + 1) _ (by omega) (by omega) (fun p hp => k2 p (by omega)) (fun p hp hpb => by rw [k3 p (by omega)]; exact h2 p (by omega) hpb)

/-- All places. -/
def finL (N : Nat) : List (Fin N) := (List.range N).pmap (fun a h => ⟨a, h⟩) (fun a h => by simpa using h)

theorem finL_val (N : Nat) : (finL N).map (fun p => p.val) = List.range N := by
  unfold finL
  rw [List.map_pmap]
  simp

theorem finL_len (N : Nat) : (finL N).length = N := by simp [finL]

theorem putCells_all {α : Type} [Inhabited α] (enc : α → Value) (d : Array α) (c : Array Value) (h : c.size = d.size) : putCells enc 0 d c = d.map enc := by
  apply Array.ext
  · simp [putCells, h]
  · intro i h1 h2
    have hi : i < d.size := by simpa using h2
    simp [putCells, hi]

theorem sorted_heap {α : Type} [Inhabited α] (enc : α → Value) {w : World} {g n : Nat} {os : Array Obj} {cur : Array Value} {e : TypeId} {fr : Nat × Nat} (d : Array α) (hb : w.heap[g]? = some (.cells cur e fr)) (hs : cur.size = d.size) :
    (grow (putRow enc (Sort.ahead w n) g 0 d) os).heap[g]? = some (.cells (d.map enc) e fr) := by
  have hg : g < w.heap.size := (Array.getElem?_eq_some_iff.1 hb).1
  rw [heap_grow_old _ _ (by simpa using hg), ← putCells_all enc d cur hs]
  simp [putRow, mapBlock, Sort.ahead, Array.getElem?_modify, hb, onCells]

theorem finL_get {n p : Nat} [Inhabited (Fin n)] (h : p < n) : ((finL n).toArray[p]!).val = p := by
  have hl : p < (finL n).length := by rw [finL_len]; exact h
  rw [getElem!_pos _ p (by simpa using hl)]
  have e := finL_val n
  have h2 : ((finL n).map (fun p => p.val))[p]? = some p := by rw [e]; simp [h]
  rw [List.getElem?_map, List.getElem?_eq_getElem hl] at h2
  simpa using h2

theorem sortA_inOrd (key : Nat → Int) (n : Nat) [Inhabited (Fin n)] : InOrd key n ((insertionSort (ltKA (fun p : Fin n => p.val) key) (finL n).toArray 0 n).toList.map (fun p => p.val)) := by
  have hsz : (finL n).toArray.size = n := by simp [finL_len]
  have e : insertionSort (ltKA (fun p : Fin n => p.val) key) (finL n).toArray 0 n = insertionSort (ltSA (fun p : Fin n => p.val) key) (finL n).toArray 0 n := by
    unfold insertionSort
    refine outer_eqA (n - (0 + 1)) _ _ rfl (by omega) (fun p hp => ?_) (fun p hp hpb => finL_get hpb)
    have hn : 0 < n := (default : Fin n).pos
    rw [finL_get (by omega)]; omega
  rw [e]
  obtain ⟨h1, h2⟩ := insertionSort_holds (lt := ltSA (fun p : Fin n => p.val) key) (ltSA_swo _ key) (finL n).toArray 0 n (Nat.zero_le _) (by omega)
  obtain ⟨q1, -, q2⟩ := h1
  have q1' : (insertionSort (ltSA (fun p : Fin n => p.val) key) (finL n).toArray 0 n).size = n := by rw [q1]; exact hsz
  have hp0 : (insertionSort (ltSA (fun p : Fin n => p.val) key) (finL n).toArray 0 n).toList.Perm (finL n) := by
    have e1 : (insertionSort (ltSA (fun p : Fin n => p.val) key) (finL n).toArray 0 n).extract 0 n = insertionSort (ltSA (fun p : Fin n => p.val) key) (finL n).toArray 0 n := by
      have := Array.extract_size (xs := insertionSort (ltSA (fun p : Fin n => p.val) key) (finL n).toArray 0 n)
      rwa [q1'] at this
    have e2 : ((finL n).toArray).extract 0 n = (finL n).toArray := by
      have := Array.extract_size (xs := (finL n).toArray)
      rwa [hsz] at this
    rw [e1, e2] at q2
    simpa using q2
  have hp := hp0.map (fun p : Fin n => p.val)
  rw [finL_val] at hp
  refine ⟨hp, ?_⟩
  have hnd : ((insertionSort (ltSA (fun p : Fin n => p.val) key) (finL n).toArray 0 n).toList.map (fun p => p.val)).Nodup := hp.nodup_iff.2 List.nodup_range
  rw [List.pairwise_map, List.pairwise_iff_getElem]
  intro i j hi hj hij
  have hi' : i < (insertionSort (ltSA (fun p : Fin n => p.val) key) (finL n).toArray 0 n).size := by simpa using hi
  have hj' : j < (insertionSort (ltSA (fun p : Fin n => p.val) key) (finL n).toArray 0 n).size := by simpa using hj
  have h3 := h2 i j (Nat.zero_le _) hij (by omega)
  rw [getElem!_pos _ i hi', getElem!_pos _ j hj'] at h3
  have hne := List.pairwise_iff_getElem.1 hnd i j (by simpa using hi) (by simpa using hj) hij
  simp only [List.getElem_map, Array.getElem_toList] at hne ⊢
  have h4 := of_decide_eq_false h3
  dsimp only at h4
  generalize ((insertionSort (ltSA (fun p : Fin n => p.val) key) (finL n).toArray 0 n)[i]).val = u at *
  generalize ((insertionSort (ltSA (fun p : Fin n => p.val) key) (finL n).toArray 0 n)[j]).val = v at *
  omega

/- SortStableFunc of places, by their dues. -/
def encA (n : Nat) (p : Fin n) : Value := .int .i64 (p.val : Int)

theorem encA_map {n : Nat} (d : List (Fin n)) : d.map (encA n) = (zI (d.map (fun p => p.val))).map (Value.int .i64) := by
  unfold zI encA
  rw [List.map_map, List.map_map]
  rfl

theorem ins_any (W : World) (l : List Ta) (v : Value) (bB bS g : Nat) (h0 : 0 < l.length) (h8 : l.length ≤ 8) (hv : RowSl Ta.vals W l v) (h1 : W.cell? ⟨bB, 0, none⟩ = some (.func (Fn.func 47) #[] #[])) (h2 : W.cell? ⟨bS, 0, none⟩ = some v) (hn1 : bB ≠ g) (hn2 : bS ≠ g) (hrow : ∀ ad c, v = .slice ad l.length c → ∀ b o, ad = some ⟨b, o, none⟩ → b ≠ g) (hN : NumB W g (zI (List.range l.length))) :
    Calls Try.prog 84 #[.slice (some ⟨g, 0, none⟩) l.length l.length, .int .i64 0, .int .i64 (l.length : Int), .func (.func 66) #[] #[.pointer (some ⟨bB, 0, none⟩), .pointer (some ⟨bS, 0, none⟩)]] W fun r W' => r = .returned (.tuple #[]) ∧ ∃ od, InOrd (fun k => (Tk l k).d) l.length od ∧ NumB W' g (zI od) ∧ W.grownBy W' (some g) := by
  haveI : Inhabited (Fin l.length) := ⟨⟨0, h0⟩⟩
  have eg : ∀ args w, (callFunc 66 args).run Try.prog w = .ok (.enter 66 args) w := enters_of Try.func66 (by kernel_rfl) rfl
  have hsz : (finL l.length).toArray.size = l.length := by simp [finL_len]
  have hC' : W.heap[g]? = some (.cells ((finL l.length).toArray.map (encA l.length)) 3 (0, 0)) := by
    rw [hN, List.map_toArray, encA_map, finL_val]
  have hH : Holds (encA l.length) W g 0 (finL l.length).toArray := by
    intro j hj
    have hj' : j < l.length := by rw [hsz] at hj; exact hj
    obtain ⟨c1, c2⟩ := hN.cell (i := j) (x := (j : Int)) (by unfold zI; simp [hj'])
    refine ⟨?_, by rw [Nat.zero_add]; exact c2⟩
    rw [Nat.zero_add, c1]
    unfold encA
    rw [finL_get hj']
  have hcmp : CmpLays1 Try.prog 66 #[.pointer (some ⟨bB, 0, none⟩), .pointer (some ⟨bS, 0, none⟩)] (encA l.length) (fun x y => cmpI (Tk l x.val).d (Tk l y.val).d) g 0 (finL l.length).toArray.size W := fun m os dk _ x y => by
    have hk := sorted_keep (encA l.length) (w := W) (g := g) (n := m) (os := os) dk
    have kc : ∀ (a : Addr) (u : Value), W.cell? a = some u → a.block ≠ g → (sortWorld (encA l.length) W g 0 m dk os).cell? a = some u := fun a u hu hne => hk.cell hu (fun e => hne (Option.some.inj e))
    have hv' : RowSl Ta.vals (sortWorld (encA l.length) W g 0 m dk os) l v := by
      obtain ⟨ad, c, rfl, q1, q2, q3⟩ := hv
      refine ⟨ad, c, rfl, q1, q2, ?_⟩
      rcases q3 with q3 | ⟨b, o, e, q3⟩
      · exact .inl q3
      · exact .inr ⟨b, o, e, fun q u hq => kc _ _ (q3 q u hq) (hrow ad c rfl b o e)⟩
    refine (byDue_any _ l v bB bS x.val y.val x.isLt y.isLt hv' (kc _ _ h1 hn1) (kc _ _ h2 hn2)).mono ?_
    rintro r w' ⟨rfl, q, os', rfl⟩
    exact ⟨rfl, q, os', rfl⟩
  have h := Any.insertionSortCmpFunc_s lay_insNu (encA l.length) (fun x y => cmpI (Tk l x.val).d (Tk l y.val).d) 66 #[.pointer (some ⟨bB, 0, none⟩), .pointer (some ⟨bS, 0, none⟩)] g 0 l.length 0 l.length (finL l.length).toArray (finL l.length).toArray W W eg hcmp ⟨fun _ => rfl, hH, hN.lt⟩ rfl (SW.start hH) (Nat.zero_le _) (by omega) (by omega)
  rw [hsz] at h
  change Calls Try.prog 84 _ _ _ at h
  refine h.mono ?_
  rintro r W' ⟨rfl, n, os, rfl⟩
  have elt : ltOf (fun x y : Fin l.length => cmpI (Tk l x.val).d (Tk l y.val).d) = ltKA (fun p : Fin l.length => p.val) (fun k => (Tk l k).d) := by
    funext x y
    unfold ltOf cmpI ltKA
    by_cases h1 : (Tk l x.val).d < (Tk l y.val).d
    · simp [h1]
    · by_cases h2 : (Tk l y.val).d < (Tk l x.val).d <;> simp [h1, h2]
  rw [elt]
  have hin := sortA_inOrd (fun k => (Tk l k).d) l.length
  have hds : (insertionSort (ltKA (fun p : Fin l.length => p.val) (fun k => (Tk l k).d)) (finL l.length).toArray 0 l.length).size = l.length := by
    have := hin.1.length_eq
    simpa using this
  refine ⟨rfl, _, hin, ?_, sorted_keep _ _⟩
  have h9 := sorted_heap (n := n) (os := os) (encA l.length) (insertionSort (ltKA (fun p : Fin l.length => p.val) (fun k => (Tk l k).d)) (finL l.length).toArray 0 l.length) hC' (by rw [Array.size_map, hsz, hds])
  unfold NumB
  rw [show (sortWorld (encA l.length) W g 0 n _ os).heap[g]? = _ from h9, ← encA_map]
  congr 2
  apply Array.toList_inj.1
  simp

end Go.Proofs.Ytkafihaajpifoaf
