import Derived.Test.YtccoobcggbbciaiGreatDoorSPY
import Derived.Test.YtccoobcggbbciaiGreatDoorSPL
namespace Go.Proofs.YtccoobcggbbciaiGreatDoor.S8
open Go.ChangeShapes Go.WideShapes Go.ChangeAt Go.RowKit Go.Sort

/- What stores do to a block. -/
theorem setCells_heap (g : Nat) (e : TypeId) (fr : Nat × Nat) : ∀ (vs : List Value) (o : Nat) (W : World) (cur : Array Value), W.heap[g]? = some (.cells cur e fr) → o + vs.length ≤ cur.size →
    ∃ cur', (W.setCells g o vs).heap[g]? = some (.cells cur' e fr) ∧ cur'.toList = cur.toList.take o ++ vs ++ cur.toList.drop (o + vs.length)
  | [], o, W, cur, h, _ => ⟨cur, h, by simp⟩
  | v :: r, o, W, cur, h, hl => by
    simp only [List.length_cons] at hl
    obtain ⟨cur', h1, h2⟩ := setCells_heap g e fr r (o + 1) (W.setCell ⟨g, o, none⟩ v) (cur.setIfInBounds o v) (setCell_at h) (by simp; omega)
    refine ⟨cur', h1, ?_⟩
    rw [h2, Array.toList_setIfInBounds, List.take_set, List.drop_set_of_lt (by omega)]
    have : ((cur.toList.take (o + 1)).set o v) = cur.toList.take o ++ [v] := by
      have hlen : o < cur.toList.length := by simp; omega
      rw [List.take_add_one, List.getElem?_eq_getElem hlen, List.set_append_right _ _ (by simp; omega)]
      simp [show min o cur.size = o by omega]
    rw [this]
    simp [show o + 1 + r.length = o + (r.length + 1) by omega]

theorem setCells_keep (g : Nat) : ∀ (vs : List Value) (o : Nat) (W : World), W.grownBy (W.setCells g o vs) (some g)
  | [], _, W => ⟨rfl, rfl, rfl, Nat.le_refl _, fun _ _ _ => rfl⟩
  | v :: r, o, W => by
    have h := setCells_keep g r (o + 1) (W.setCell ⟨g, o, none⟩ v)
    refine ⟨h.os, h.tape, h.output, ?_, fun k hk hne => ?_⟩
    · have e : (W.setCell ⟨g, o, none⟩ v).heap.size = W.heap.size := by simp
      exact e ▸ h.size
    · have hk' : k < (W.setCell ⟨g, o, none⟩ v).heap.size := by simpa using hk
      rw [World.setCells, h.block k hk' hne, Below.heap_setCell _ _ _ _ (by intro e; exact hne (by rw [show k = g from e]))]

theorem setCells_size (g : Nat) : ∀ (vs : List Value) (o : Nat) (W : World), (W.setCells g o vs).heap.size = W.heap.size
  | [], _, _ => rfl
  | v :: r, o, W => by rw [World.setCells, setCells_size g r]; simp

theorem grownBy_seq {a b c : World} {row : Option Nat} (h : a.grownBy b row) (k : b.grownBy c row) : a.grownBy c row := h.trans k

theorem grownBy_below {a b : World} {row : Option Nat} {B : Nat} (h : a.grownBy b row) (hB : B ≤ a.heap.size) (hr : ∀ q, row = some q → B ≤ q) : Below B a b :=
  (Below.refl _ a).grown h hB hr

theorem putCells_all {α : Type} [Inhabited α] (enc : α → Value) (d : Array α) (c : Array Value) (h : c.size = d.size) : putCells enc 0 d c = d.map enc := by
  apply Array.ext
  · simp [putCells, h]
  · intro i h1 h2
    have hi : i < d.size := by simpa using h2
    simp [putCells, hi]

theorem sorted_heap {α : Type} [Inhabited α] (enc : α → Value) {w : World} {g n : Nat} {os : Array Obj} {cur : Array Value} {e : TypeId} {fr : Nat × Nat} (d : Array α) (hb : w.heap[g]? = some (.cells cur e fr)) (hs : cur.size = d.size) :
    (grow (putRow enc (Sort.ahead w n) g 0 d) os).heap[g]? = some (.cells (d.map enc) e fr) := by
  have hg : g < w.heap.size := (Array.getElem?_eq_some_iff.1 hb).1
  rw [heap_grow_old _ _ (by simpa using hg), ← putCells_all enc d cur hs]
  simp [putRow, mapBlock, Sort.ahead, Array.getElem?_modify, hb, onCells]

theorem sorted_keep {α : Type} [Inhabited α] (enc : α → Value) {w : World} {g n : Nat} {os : Array Obj} (d : Array α) : w.grownBy (grow (putRow enc (Sort.ahead w n) g 0 d) os) (some g) := by
  refine ⟨rfl, rfl, rfl, by simp, fun k hk hne => ?_⟩
  rw [heap_grow_old _ _ (by simpa using hk)]
  have : g ≠ k := fun e => hne (by rw [e])
  simp [putRow, mapBlock, Sort.ahead, Array.getElem?_modify, this]

theorem holds_of {α : Type} [Inhabited α] (enc : α → Value) {w : World} {g : Nat} {e : TypeId} (d : Array α) (hb : w.heap[g]? = some (.cells (d.map enc) e (0, 0))) : Holds enc w g 0 d := by
  intro j hj
  have hb' : w.heap[g]? = some (.cells (d.toList.map enc).toArray e (0, 0)) := by rw [hb]; congr 2; apply Array.ext'; simp
  obtain ⟨hc, hf, -⟩ := cells_of (l := d.toList.map enc) hb'
  refine ⟨?_, hf _⟩
  rw [Nat.zero_add, hc j (enc d[j]!) (by rw [List.getElem?_map]; simp [hj])]
end Go.Proofs.YtccoobcggbbciaiGreatDoor.S8
