import Derived.Test.YtkafihaajpifoafAS
import Derived.Test.YtkafihaajpifoafXE
import Derived.Shelf.SlSortCmp.Insertion1
namespace Go.Proofs.Ytkafihaajpifoaf
open Go.ChangeShapes Go.WideShapes Go.ChangeAt Go.RowKit Go.Sort

/-- Places, as numbers. -/
def zI (th : List Nat) : List Int := th.map (fun n : Nat => (n : Int))

theorem zI_len (th : List Nat) : (zI th).length = th.length := by simp [zI]

theorem zI_flat (l : List Int) : l.flatMap nuV = l.map (Value.int .i64) := by
  induction l with
  | nil => rfl
  | cons x r ih => rw [List.flatMap_cons, ih]; rfl

theorem ownsRow_keep2 {w w' : World} {B n size : Nat} {e : TypeId} {v : Value} {xs : List Value} (h : w.ownsRow B e size v n xs) (hs : ∀ k, v.ownBlock = some k → w'.heap[k]? = w.heap[k]?) : w'.ownsRow B e size v n xs := by
  obtain ⟨hl, h | ⟨g, cap, cur, he, hb, hg, hr⟩⟩ := h
  · exact ⟨hl, .inl h⟩
  · exact ⟨hl, .inr ⟨g, cap, cur, he, hb, (hs g (by rw [he]; rfl)).trans hg, hr⟩⟩

theorem sorted_keep {α : Type} [Inhabited α] (enc : α → Value) {w : World} {g n : Nat} {os : Array Obj} (d : Array α) : w.grownBy (grow (putRow enc (Sort.ahead w n) g 0 d) os) (some g) := by
  refine ⟨rfl, rfl, rfl, by simp, fun k hk hne => ?_⟩
  rw [heap_grow_old _ _ (by simpa using hk)]
  have : g ≠ k := fun e => hne (by rw [e])
  simp [putRow, mapBlock, Sort.ahead, Array.getElem?_modify, this]

/-- A row of numbers of one's own. -/
def Own (W : World) (B : Nat) (tv : Value) (th : List Int) : Prop := W.ownsRow B 3 1 tv th.length (th.map (Value.int .i64))

theorem Own.cases {W : World} {B : Nat} {tv : Value} {th : List Int} (h : Own W B tv th) : (tv = .slice none 0 0 ∧ th = []) ∨ ∃ g cap cur, tv = .slice (some ⟨g, 0, none⟩) th.length cap ∧ B ≤ g ∧ W.heap[g]? = some (.cells cur 3 (0, 0)) ∧ th.length ≤ cap ∧ cap ≤ maxLen ∧ cur.size = cap ∧ cur.toList = th.map (Value.int .i64) ++ cur.toList.drop th.length := by
  obtain ⟨hl, ⟨h1, h2⟩ | ⟨g, cap, cur, h1, h2, h3, h4, h5, h6, h7⟩⟩ := h
  · exact .inl ⟨h1, List.eq_nil_of_length_eq_zero h2⟩
  · refine .inr ⟨g, cap, cur, h1, h2, h3, h4, h5, by omega, ?_⟩
    rw [Nat.mul_one] at h7
    rw [← h7]
    exact (List.take_append_drop _ _).symm

theorem Own.mk {W : World} {B g cap n : Nat} {th : List Int} {cur : Array Value} {rest : List Value} (hn : th.length = n) (hB : B ≤ g) (hg : W.heap[g]? = some (.cells cur 3 (0, 0))) (hcap : n ≤ cap) (hm : cap ≤ maxLen) (hs : cur.size = cap) (hc : cur.toList = th.map (Value.int .i64) ++ rest) : Own W B (.slice (some ⟨g, 0, none⟩) n cap) th := by
  subst hn
  refine ⟨by simp, .inr ⟨g, cap, cur, rfl, hB, hg, hcap, hm, by omega, ?_⟩⟩
  rw [Nat.mul_one, hc, List.take_append_of_le_length (by simp), List.take_of_length_le (by simp)]

theorem Own.same {W W' : World} {B : Nat} {tv : Value} {th : List Int} (h : Own W B tv th) (hk : ∀ g, tv.ownBlock = some g → W'.heap[g]? = W.heap[g]?) : Own W' B tv th := ownsRow_keep2 h hk

theorem Own.cell {W : World} {B g cap : Nat} {th : List Int} (h : Own W B (.slice (some ⟨g, 0, none⟩) th.length cap) th) {j : Nat} {z : Int} (hj : th[j]? = some z) : W.cell? ⟨g, j, none⟩ = some (.int .i64 z) := by
  have := h.cellAt j (by have := (List.getElem?_eq_some_iff.1 hj).1; omega)
  rw [this, List.getElem?_map, hj]
  rfl

theorem putCells_take (cur : Array Value) (xs ys : List Int) (h : (xs ++ ys).length ≤ cur.size) : (putCells (Value.int .i64) 0 (xs ++ ys).toArray cur).toList = xs.map (Value.int .i64) ++ (putCells (Value.int .i64) 0 (xs ++ ys).toArray cur).toList.drop xs.length := by
  have : (putCells (Value.int .i64) 0 (xs ++ ys).toArray cur).toList.take xs.length = xs.map (Value.int .i64) := by
    apply List.ext_getElem?
    intro j
    rw [List.length_append] at h
    by_cases hj : j < xs.length
    · rw [List.getElem?_take_of_lt hj, Array.getElem?_toList]
      rw [List.getElem?_map, List.getElem?_eq_getElem hj]
      have hjc : j < cur.size := by omega
      have hjd : j < (xs ++ ys).length := by rw [List.length_append]; omega
      simp only [putCells, Array.getElem?_mapIdx, Array.getElem?_eq_getElem hjc, Option.map_some, Nat.zero_le, true_and, Nat.zero_add, List.size_toArray, Nat.sub_zero]
      rw [if_pos hjd, getElem!_pos _ j (by simpa using hjd)]
      simp only [List.getElem_toArray]
      rw [List.getElem_append_left hj]
    · rw [List.getElem?_take_eq_none (by omega), List.getElem?_eq_none (by rw [List.length_map]; omega)]
  exact (List.take_append_drop xs.length _).symm.trans (by rw [this])

/-- Delete, of one. -/
theorem Delete_own (W : World) (B : Nat) (tv : Value) (th : List Int) (i : Nat) (h : Own W B tv th) (hi : i < th.length) :
    Calls Try.prog 45 #[tv, .int .i64 (i : Int), .int .i64 ((i : Int) + 1)] W fun r W' => ∃ tv', r = .returned tv' ∧ Own W' B tv' (th.take i ++ th.drop (i + 1)) ∧ W.grownBy W' tv.ownBlock ∧ tv'.ownBlock = tv.ownBlock := by
  rcases h.cases with ⟨rfl, e⟩ | ⟨g, cap, cur, rfl, hB, hg, hcap, hm, hs, hcur⟩
  · rw [e] at hi; simp at hi
  · have hH : Holds (Value.int .i64) W g 0 th.toArray := by
      intro j hj
      have hj' : j < th.length := by simpa using hj
      refine ⟨?_, by unfold World.frozen?; rw [hg]; simp⟩
      rw [Nat.zero_add, h.cell (z := th.toArray[j]!) (by rw [getElem!_pos _ j hj]; simp [hj'])]
    have hc := Any.slices_Delete_int lay_deleteNu g 0 cap i (i + 1) th W hH hcap (by unfold maxLen at hm; omega) (by omega) (by omega)
    change Calls Try.prog 45 #[_, _, .int .i64 (((i + 1 : Nat) : Int))] _ _ at hc
    rw [show (((i + 1 : Nat) : Int)) = (i : Int) + 1 by omega] at hc
    refine hc.mono ?_
    rintro r W' ⟨rfl, q, rfl⟩
    have hlen : (th.take i ++ th.drop (i + 1)).length = th.length - 1 := by simp; omega
    rw [show th.length - (i + 1 - i) = (th.take i ++ th.drop (i + 1)).length by rw [hlen]; omega, show i + 1 - i = 1 by omega]
    have hk := sorted_keep (w := W) (g := g) (n := q) (os := #[]) (Value.int .i64) (th.take i ++ th.drop (i + 1) ++ List.replicate 1 0).toArray
    rw [grow_empty] at hk
    refine ⟨_, rfl, ?_, hk, rfl⟩
    have hh : (putRow (Value.int .i64) (Sort.ahead W q) g 0 (th.take i ++ th.drop (i + 1) ++ List.replicate 1 0).toArray).heap[g]? = some (.cells (putCells (Value.int .i64) 0 (th.take i ++ th.drop (i + 1) ++ List.replicate 1 0).toArray cur) 3 (0, 0)) := by
      simp [putRow, mapBlock, Sort.ahead, Array.getElem?_modify, hg, onCells]
    exact Own.mk rfl hB hh (by omega) hm (by simp [putCells, hs]) (putCells_take cur _ _ (by rw [List.length_append]; simp only [List.length_replicate]; omega))
end Go.Proofs.Ytkafihaajpifoaf
