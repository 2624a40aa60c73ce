import Derived.Test.YtccoobcggbbciaiGreatDoorRows
import Derived.Shelf.SlGeneric
import Derived.Shelf.Slices.SearchI
import Derived.Shelf.Slices.Delete
import Derived.Shelf.Spec.SlicesInsertGrow
import Derived.Shelf.Bits.Mul64
import Derived.Ground.Names2Prog
import Derived.Ground.NamesProg
import Derived.Test.YtccoobcggbbciaiGreatDoorSPY
namespace Go.Proofs.YtccoobcggbbciaiGreatDoor.S8
open Go.Shelf
def lay_search_ren : Go.Shelf.Ren := ⟨fun | 25 => 129 | 31 => 152 | 32 => 153 | 37 => 125 | n => n, fun | 22 => 24 | 3 => 3 | 4 => 4 | 40 => 148 | 0 => 0 | n => n, fun | n => n⟩
theorem lay_search : Go.Proofs.Lays2.n25 Tryz.prog lay_search_ren := {
  mixed := by kernel_rfl
  f25 := Tryz.func129.trans (congrArg some (by kernel_rfl))
  f31 := Tryz.func152.trans (congrArg some (by kernel_rfl))
  f32 := Tryz.func153.trans (congrArg some (by kernel_rfl))
  f37 := Tryz.func125.trans (congrArg some (by kernel_rfl))
  t0 := Tryz.underlying0
  a0 := Tryz.isAgg0
  z0 := Tryz.sizeOf0
  v0 := Tryz.zeroValue0
  t3 := Tryz.underlying3
  a3 := Tryz.isAgg3
  z3 := Tryz.sizeOf3
  v3 := Tryz.zeroValue3
  t4 := Tryz.underlying4
  a4 := Tryz.isAgg4
  z4 := Tryz.sizeOf4
  v4 := Tryz.zeroValue4
  t22 := Tryz.underlying24
  a22 := Tryz.isAgg24
  z22 := Tryz.sizeOf24
  v22 := Tryz.zeroValue24
  t40 := Tryz.underlying148
  a40 := Tryz.isAgg148
  z40 := Tryz.sizeOf148
  v40 := Tryz.zeroValue148 }
def lay_insert_ren : Go.Shelf.Ren := ⟨fun | 21 => 130 | 27 => 154 | 28 => 155 | 35 => 167 | 39 => 170 | n => n, fun | 22 => 24 | 3 => 3 | 4 => 4 | 0 => 0 | n => n, fun | n => n⟩
theorem lay_insert : Go.Proofs.Lays2.n21 Tryz.prog lay_insert_ren := {
  mixed := by kernel_rfl
  f21 := Tryz.func130.trans (congrArg some (by kernel_rfl))
  f27 := Tryz.func154.trans (congrArg some (by kernel_rfl))
  f28 := Tryz.func155.trans (congrArg some (by kernel_rfl))
  f35 := Tryz.func167.trans (congrArg some (by kernel_rfl))
  f39 := Tryz.func170.trans (congrArg some (by kernel_rfl))
  t0 := Tryz.underlying0
  a0 := Tryz.isAgg0
  z0 := Tryz.sizeOf0
  v0 := Tryz.zeroValue0
  t3 := Tryz.underlying3
  a3 := Tryz.isAgg3
  z3 := Tryz.sizeOf3
  v3 := Tryz.zeroValue3
  t4 := Tryz.underlying4
  a4 := Tryz.isAgg4
  z4 := Tryz.sizeOf4
  v4 := Tryz.zeroValue4
  t22 := Tryz.underlying24
  a22 := Tryz.isAgg24
  z22 := Tryz.sizeOf24
  v22 := Tryz.zeroValue24
  i3 := by kernel_rfl }
def lay_delete_ren : Go.Shelf.Ren := ⟨fun | 23 => 131 | n => n, fun | 22 => 24 | 3 => 3 | 4 => 4 | 0 => 0 | n => n, fun | n => n⟩
theorem lay_delete : Go.Proofs.Lays2.n23 Tryz.prog lay_delete_ren := {
  mixed := by kernel_rfl
  f23 := Tryz.func131.trans (congrArg some (by kernel_rfl))
  t0 := Tryz.underlying0
  a0 := Tryz.isAgg0
  z0 := Tryz.sizeOf0
  v0 := Tryz.zeroValue0
  t3 := Tryz.underlying3
  a3 := Tryz.isAgg3
  z3 := Tryz.sizeOf3
  v3 := Tryz.zeroValue3
  t4 := Tryz.underlying4
  a4 := Tryz.isAgg4
  z4 := Tryz.sizeOf4
  v4 := Tryz.zeroValue4
  t22 := Tryz.underlying24
  a22 := Tryz.isAgg24
  z22 := Tryz.sizeOf24
  v22 := Tryz.zeroValue24
  i3 := by kernel_rfl }
def lay_mul_ren : Go.Shelf.Ren := ⟨fun | 212 => 128 | 263 => 150 | 264 => 151 | n => n, fun | 46 => 148 | 51 => 169 | 146 => 172 | 53 => 171 | 148 => 174 | n => n, fun | n => n⟩
theorem lay_mul : Go.Proofs.Lays.n212 Tryz.prog lay_mul_ren := {
  mixed := by kernel_rfl
  f212 := Tryz.func128.trans (congrArg some (by kernel_rfl))
  f263 := Tryz.func150.trans (congrArg some (by kernel_rfl))
  f264 := Tryz.func151.trans (congrArg some (by kernel_rfl))
  t46 := Tryz.underlying148
  a46 := Tryz.isAgg148
  z46 := Tryz.sizeOf148
  v46 := Tryz.zeroValue148
  t51 := Tryz.underlying169
  a51 := Tryz.isAgg169
  z51 := Tryz.sizeOf169
  v51 := Tryz.zeroValue169
  t53 := Tryz.underlying171
  a53 := Tryz.isAgg171
  z53 := Tryz.sizeOf171
  v53 := Tryz.zeroValue171
  t146 := Tryz.underlying172
  a146 := Tryz.isAgg172
  z146 := Tryz.sizeOf172
  v146 := Tryz.zeroValue172
  t148 := Tryz.underlying174
  a148 := Tryz.isAgg174
  z148 := Tryz.sizeOf174
  v148 := Tryz.zeroValue174 }
end Go.Proofs.YtccoobcggbbciaiGreatDoor.S8
namespace Go.Proofs.YtccoobcggbbciaiGreatDoor.S8
open Go.ChangeShapes Go.WideShapes Go.ChangeAt Go.RowKit Go.Sort

/- What stores do to a block. -/
theorem setCells_heap (g : Nat) (e : TypeId) (fr : Nat × Nat) : ∀ (vs : List Value) (o : Nat) (W : World) (cur : Array Value), W.heap[g]? = some (.cells cur e fr) → o + vs.length ≤ cur.size →
    ∃ cur', (W.setCells g o vs).heap[g]? = some (.cells cur' e fr) ∧ cur'.toList = cur.toList.take o ++ vs ++ cur.toList.drop (o + vs.length)
  | [], o, W, cur, h, _ => ⟨cur, h, by simp⟩
  | v :: r, o, W, cur, h, hl => by
    simp only [List.length_cons] at hl
    obtain ⟨cur', h1, h2⟩ := setCells_heap g e fr r (o + 1) (W.setCell ⟨g, o, none⟩ v) (cur.setIfInBounds o v) (setCell_at h) (by simp; omega)
    refine ⟨cur', h1, ?_⟩
    rw [h2, Array.toList_setIfInBounds, List.take_set, List.drop_set_of_lt (by omega)]
    have : ((cur.toList.take (o + 1)).set o v) = cur.toList.take o ++ [v] := by
      have hlen : o < cur.toList.length := by simp; omega
      rw [List.take_add_one, List.getElem?_eq_getElem hlen, List.set_append_right _ _ (by simp; omega)]
      simp [show min o cur.size = o by omega]
    rw [this]
    simp [show o + 1 + r.length = o + (r.length + 1) by omega]

theorem setCells_keep (g : Nat) : ∀ (vs : List Value) (o : Nat) (W : World), W.grownBy (W.setCells g o vs) (some g)
  | [], _, W => ⟨rfl, rfl, rfl, Nat.le_refl _, fun _ _ _ => rfl⟩
  | v :: r, o, W => by
    have h := setCells_keep g r (o + 1) (W.setCell ⟨g, o, none⟩ v)
    refine ⟨h.os, h.tape, h.output, ?_, fun k hk hne => ?_⟩
    · have e : (W.setCell ⟨g, o, none⟩ v).heap.size = W.heap.size := by simp
      exact e ▸ h.size
    · have hk' : k < (W.setCell ⟨g, o, none⟩ v).heap.size := by simpa using hk
      rw [World.setCells, h.block k hk' hne, Below.heap_setCell _ _ _ _ (by intro e; exact hne (by rw [show k = g from e]))]

theorem setCells_size (g : Nat) : ∀ (vs : List Value) (o : Nat) (W : World), (W.setCells g o vs).heap.size = W.heap.size
  | [], _, _ => rfl
  | v :: r, o, W => by rw [World.setCells, setCells_size g r]; simp

theorem grownBy_seq {a b c : World} {row : Option Nat} (h : a.grownBy b row) (k : b.grownBy c row) : a.grownBy c row := h.trans k

theorem grownBy_below {a b : World} {row : Option Nat} {B : Nat} (h : a.grownBy b row) (hB : B ≤ a.heap.size) (hr : ∀ q, row = some q → B ≤ q) : Below B a b :=
  (Below.refl _ a).grown h hB hr

theorem putCells_all {α : Type} [Inhabited α] (enc : α → Value) (d : Array α) (c : Array Value) (h : c.size = d.size) : putCells enc 0 d c = d.map enc := by
  apply Array.ext
  · simp [putCells, h]
  · intro i h1 h2
    have hi : i < d.size := by simpa using h2
    simp [putCells, hi]

theorem sorted_heap {α : Type} [Inhabited α] (enc : α → Value) {w : World} {g n : Nat} {os : Array Obj} {cur : Array Value} {e : TypeId} {fr : Nat × Nat} (d : Array α) (hb : w.heap[g]? = some (.cells cur e fr)) (hs : cur.size = d.size) :
    (grow (putRow enc (Sort.ahead w n) g 0 d) os).heap[g]? = some (.cells (d.map enc) e fr) := by
  have hg : g < w.heap.size := (Array.getElem?_eq_some_iff.1 hb).1
  rw [heap_grow_old _ _ (by simpa using hg), ← putCells_all enc d cur hs]
  simp [putRow, mapBlock, Sort.ahead, Array.getElem?_modify, hb, onCells]

theorem sorted_keep {α : Type} [Inhabited α] (enc : α → Value) {w : World} {g n : Nat} {os : Array Obj} (d : Array α) : w.grownBy (grow (putRow enc (Sort.ahead w n) g 0 d) os) (some g) := by
  refine ⟨rfl, rfl, rfl, by simp, fun k hk hne => ?_⟩
  rw [heap_grow_old _ _ (by simpa using hk)]
  have : g ≠ k := fun e => hne (by rw [e])
  simp [putRow, mapBlock, Sort.ahead, Array.getElem?_modify, this]

theorem holds_of {α : Type} [Inhabited α] (enc : α → Value) {w : World} {g : Nat} {e : TypeId} (d : Array α) (hb : w.heap[g]? = some (.cells (d.map enc) e (0, 0))) : Holds enc w g 0 d := by
  intro j hj
  have hb' : w.heap[g]? = some (.cells (d.toList.map enc).toArray e (0, 0)) := by rw [hb]; congr 2; apply Array.ext'; simp
  obtain ⟨hc, hf, -⟩ := cells_of (l := d.toList.map enc) hb'
  refine ⟨?_, hf _⟩
  rw [Nat.zero_add, hc j (enc d[j]!) (by rw [List.getElem?_map]; simp [hj])]
end Go.Proofs.YtccoobcggbbciaiGreatDoor.S8
namespace Go.Proofs.YtccoobcggbbciaiGreatDoor.S8
open Go.ChangeShapes Go.WideShapes Go.ChangeAt Go.RowKit Go.Sort

/-- Places, as numbers. -/
def zI (th : List Nat) : List Int := th.map (fun n : Nat => (n : Int))

theorem zI_len (th : List Nat) : (zI th).length = th.length := by simp [zI]

theorem zI_flat (l : List Int) : l.flatMap nuV = l.map (Value.int .i64) := by
  induction l with
  | nil => rfl
  | cons x r ih => rw [List.flatMap_cons, ih]; rfl

/-- A row of numbers of one's own. -/
def Own (W : World) (B : Nat) (tv : Value) (th : List Int) : Prop := W.ownsRow B 3 1 tv th.length (th.map (Value.int .i64))

theorem Own.cases {W : World} {B : Nat} {tv : Value} {th : List Int} (h : Own W B tv th) : (tv = .slice none 0 0 ∧ th = []) ∨ ∃ g cap cur, tv = .slice (some ⟨g, 0, none⟩) th.length cap ∧ B ≤ g ∧ W.heap[g]? = some (.cells cur 3 (0, 0)) ∧ th.length ≤ cap ∧ cap ≤ maxLen ∧ cur.size = cap ∧ cur.toList = th.map (Value.int .i64) ++ cur.toList.drop th.length := by
  obtain ⟨hl, ⟨h1, h2⟩ | ⟨g, cap, cur, h1, h2, h3, h4, h5, h6, h7⟩⟩ := h
  · exact .inl ⟨h1, List.eq_nil_of_length_eq_zero h2⟩
  · refine .inr ⟨g, cap, cur, h1, h2, h3, h4, h5, by omega, ?_⟩
    rw [Nat.mul_one] at h7
    rw [← h7]
    exact (List.take_append_drop _ _).symm

theorem Own.mk {W : World} {B g cap n : Nat} {th : List Int} {cur : Array Value} {rest : List Value} (hn : th.length = n) (hB : B ≤ g) (hg : W.heap[g]? = some (.cells cur 3 (0, 0))) (hcap : n ≤ cap) (hm : cap ≤ maxLen) (hs : cur.size = cap) (hc : cur.toList = th.map (Value.int .i64) ++ rest) : Own W B (.slice (some ⟨g, 0, none⟩) n cap) th := by
  subst hn
  refine ⟨by simp, .inr ⟨g, cap, cur, rfl, hB, hg, hcap, hm, by omega, ?_⟩⟩
  rw [Nat.mul_one, hc, List.take_append_of_le_length (by simp), List.take_of_length_le (by simp)]

theorem Own.same {W W' : World} {B : Nat} {tv : Value} {th : List Int} (h : Own W B tv th) (hk : ∀ g, tv.ownBlock = some g → W'.heap[g]? = W.heap[g]?) : Own W' B tv th := ownsRow_keep2 h hk

theorem Own.cell {W : World} {B g cap : Nat} {th : List Int} (h : Own W B (.slice (some ⟨g, 0, none⟩) th.length cap) th) {j : Nat} {z : Int} (hj : th[j]? = some z) : W.cell? ⟨g, j, none⟩ = some (.int .i64 z) := by
  have := h.cellAt j (by have := (List.getElem?_eq_some_iff.1 hj).1; omega)
  rw [this, List.getElem?_map, hj]
  rfl

set_option maxRecDepth 20000 in
theorem Search_nil (W : World) (p : Int) : Calls Tryz.prog 129 #[.slice none 0 0, .int .i64 p] W fun r W' => r = .returned (.tuple #[.int .i64 0, .bool false]) ∧ ∃ q, W' = W.drewN q := by
  go_enter Tryz.func129, Tryz.ntmps129
  go_wp2_with fail
  go_loopw [7, 8] (fun i j wr => i = .int .i64 0 ∧ j = .int .i64 0 ∧ ∃ q, wr = W.drewN q) (fun _ _ _ => 0)
  case atStart => exact ⟨rfl, rfl, 0, rfl⟩
  case round =>
    obtain ⟨rfl, rfl, q, rfl⟩ := hrel
    go_wp2_with fail
    go_ret2
    exact ⟨rfl, _, rfl⟩

theorem Search_any (W : World) (B : Nat) (tv : Value) (th : List Nat) (p : Nat) (h : Own W B tv (zI th)) (ha : th.Pairwise (· < ·)) (hl : th.length ≤ 100000) :
    Calls Tryz.prog 129 #[tv, .int .i64 (p : Int)] W fun r W' => r = .returned (.tuple #[.int .i64 ((th.countP (· < p) : Nat) : Int), .bool ((zI th).contains (p : Int))]) ∧ ∃ q, W' = W.drewN q := by
  rcases h.cases with ⟨rfl, e⟩ | ⟨g, cap, cur, rfl, -, -⟩
  · have : th = [] := by simpa [zI] using e
    subst this
    exact Search_nil W p
  · have hs : ((zI th).take (zI th).length).Pairwise (· ≤ ·) := by
      rw [List.take_length]
      unfold zI
      rw [List.pairwise_map]
      exact ha.imp (fun h => by omega)
    have hc := Any.slices_BinarySearch_int lay_search g 0 (zI th).length cap (zI th) (p : Int) W (Nat.le_refl _) (by rw [zI_len]; omega) (fun j hj => by
      rw [Nat.zero_add, h.cell (z := (zI th).getD j 0) (by rw [List.getD_eq_getElem?_getD, List.getElem?_eq_getElem hj]; rfl)]) hs
    change Calls Tryz.prog 129 _ _ _ at hc
    refine hc.mono ?_
    rintro r W' ⟨rfl, hq⟩
    have e1 : ((zI th).take (zI th).length).countP (fun x => decide (x < (p : Int))) = th.countP (· < p) := by
      rw [List.take_length]
      unfold zI
      rw [List.countP_map]
      rw [show ((fun x : Int => decide (x < (p : Int))) ∘ fun n : Nat => (n : Int)) = fun n : Nat => decide (n < p) from funext fun n => by simp]
    rw [e1, List.take_length]
    exact ⟨rfl, hq⟩

theorem drop_head {α : Type} (a b : List α) (n : Nat) (h : a.length = n) : (a ++ b).drop n = b := by subst h; simp

theorem take_head {α : Type} (a b : List α) (n : Nat) (h : a.length = n) : (a ++ b).take n = a := by subst h; simp

theorem putCells_take (cur : Array Value) (xs ys : List Int) (h : (xs ++ ys).length ≤ cur.size) : (putCells (Value.int .i64) 0 (xs ++ ys).toArray cur).toList = xs.map (Value.int .i64) ++ (putCells (Value.int .i64) 0 (xs ++ ys).toArray cur).toList.drop xs.length := by
  have : (putCells (Value.int .i64) 0 (xs ++ ys).toArray cur).toList.take xs.length = xs.map (Value.int .i64) := by
    apply List.ext_getElem?
    intro j
    rw [List.length_append] at h
    by_cases hj : j < xs.length
    · rw [List.getElem?_take_of_lt hj, Array.getElem?_toList]
      rw [List.getElem?_map, List.getElem?_eq_getElem hj]
      have hjc : j < cur.size := by omega
      have hjd : j < (xs ++ ys).length := by rw [List.length_append]; omega
      simp only [putCells, Array.getElem?_mapIdx, Array.getElem?_eq_getElem hjc, Option.map_some, Nat.zero_le, true_and, Nat.zero_add, List.size_toArray, Nat.sub_zero]
      rw [if_pos hjd, getElem!_pos _ j (by simpa using hjd)]
      simp only [List.getElem_toArray]
      rw [List.getElem_append_left hj]
    · rw [List.getElem?_take_eq_none (by omega), List.getElem?_eq_none (by rw [List.length_map]; omega)]
  exact (List.take_append_drop xs.length _).symm.trans (by rw [this])

/-- Delete, of one. -/
theorem Delete_own (W : World) (B : Nat) (tv : Value) (th : List Int) (i : Nat) (h : Own W B tv th) (hi : i < th.length) :
    Calls Tryz.prog 131 #[tv, .int .i64 (i : Int), .int .i64 ((i : Int) + 1)] W fun r W' => ∃ tv', r = .returned tv' ∧ Own W' B tv' (th.take i ++ th.drop (i + 1)) ∧ W.grownBy W' tv.ownBlock ∧ tv'.ownBlock = tv.ownBlock := by
  rcases h.cases with ⟨rfl, e⟩ | ⟨g, cap, cur, rfl, hB, hg, hcap, hm, hs, hcur⟩
  · rw [e] at hi; simp at hi
  · have hH : Holds (Value.int .i64) W g 0 th.toArray := by
      intro j hj
      have hj' : j < th.length := by simpa using hj
      refine ⟨?_, by unfold World.frozen?; rw [hg]; simp⟩
      rw [Nat.zero_add, h.cell (z := th.toArray[j]!) (by rw [getElem!_pos _ j hj]; simp [hj'])]
    have hc := Any.slices_Delete_int lay_delete g 0 cap i (i + 1) th W hH hcap (by unfold maxLen at hm; omega) (by omega) (by omega)
    change Calls Tryz.prog 131 #[_, _, .int .i64 (((i + 1 : Nat) : Int))] _ _ at hc
    rw [show (((i + 1 : Nat) : Int)) = (i : Int) + 1 by omega] at hc
    refine hc.mono ?_
    rintro r W' ⟨rfl, q, rfl⟩
    have hlen : (th.take i ++ th.drop (i + 1)).length = th.length - 1 := by simp; omega
    rw [show th.length - (i + 1 - i) = (th.take i ++ th.drop (i + 1)).length by rw [hlen]; omega, show i + 1 - i = 1 by omega]
    have hk := sorted_keep (w := W) (g := g) (n := q) (os := #[]) (Value.int .i64) (th.take i ++ th.drop (i + 1) ++ List.replicate 1 0).toArray
    rw [grow_empty] at hk
    refine ⟨_, rfl, ?_, hk, rfl⟩
    have hh : (putRow (Value.int .i64) (Sort.ahead W q) g 0 (th.take i ++ th.drop (i + 1) ++ List.replicate 1 0).toArray).heap[g]? = some (.cells (putCells (Value.int .i64) 0 (th.take i ++ th.drop (i + 1) ++ List.replicate 1 0).toArray cur) 3 (0, 0)) := by
      simp [putRow, mapBlock, Sort.ahead, Array.getElem?_modify, hg, onCells]
    exact Own.mk rfl hB hh (by omega) hm (by simp [putCells, hs]) (putCells_take cur _ _ (by rw [List.length_append]; simp only [List.length_replicate]; omega))

theorem shape_of {W : World} {g : Nat} {cur : Array Value} {e : TypeId} {fr : Nat × Nat} (h : W.heap[g]? = some (.cells cur e fr)) : W.shape? g = some (e, cur.size) := by
  unfold World.shape?; rw [h]

theorem drew_keep (W : World) (row : Option Nat) : W.grownBy W.drew row := ⟨rfl, rfl, rfl, Nat.le_refl _, fun _ _ _ => rfl⟩

theorem zero_size (n : Nat) : (Builtin.zeroCells (Value.int .i64 0).cells n).size = n := by simp [Builtin.zeroCells, Value.cells]

theorem ins_map (th : List Int) (i : Nat) (p : Int) : (th.take i ++ p :: th.drop i).map (Value.int .i64) = (th.map (Value.int .i64)).take i ++ [.int .i64 p] ++ (th.map (Value.int .i64)).drop i := by
  simp [List.map_take, List.map_drop]

/-- Insert, of one. -/
theorem Insert_own (W : World) (B : Nat) (tv : Value) (th : List Int) (i vb : Nat) (p : Int) (h : Own W B tv th) (hi : i ≤ th.length) (hl : th.length ≤ 100000) (hvb : W.heap[vb]? = some (.cells #[.int .i64 p] 3 (0, 0))) (hne : tv.ownBlock ≠ some vb) (hBW : B ≤ W.heap.size) :
    Calls Tryz.prog 130 #[tv, .int .i64 (i : Int), .slice (some ⟨vb, 0, none⟩) 1 1] W fun r W' => ∃ tv', r = .returned tv' ∧ Own W' B tv' (th.take i ++ p :: th.drop i) ∧ W.grownBy W' tv.ownBlock ∧ (tv'.ownBlock = tv.ownBlock ∨ ∃ g, tv'.ownBlock = some g ∧ W.heap.size ≤ g) := by
  have hlen : (th.take i ++ p :: th.drop i).length = th.length + 1 := by simp; omega
  obtain ⟨hvc, hvf, hvl⟩ := cells_of (l := [.int .i64 p]) hvb
  have hvs : ∀ j v, [Value.int .i64 p][j]? = some v → W.cell? ⟨vb, 0 + j, none⟩ = some v := fun j v hj => by rw [Nat.zero_add]; exact hvc j v hj
  have h1v : ∀ v ∈ [Value.int .i64 p], v.oneCell' = true := fun v hv => by simp at hv; subst hv; rfl
  have h1c : ∀ v ∈ th.map (Value.int .i64), v.oneCell' = true := fun v hv => by obtain ⟨z, -, rfl⟩ := List.mem_map.1 hv; rfl
  rcases h.cases with ⟨rfl, rfl⟩ | ⟨g, cap, cur, rfl, hB, hg, hcap, hm, hs, hcur⟩
  · have i0 : i = 0 := by simpa using hi
    subst i0
    have hc := Any2.slices_Insert_int_end_grow lay_insert none 0 0 vb 0 1 1 [] [.int .i64 p] W (by omega) (by omega) (by omega) (by omega) rfl rfl (fun _ => rfl) (fun a e => by cases e) hvs h1v
    change Calls Tryz.prog 130 _ _ _ at hc
    refine hc.mono ?_
    have hge := grownCap_ge W (0 + 1) 0 (lay_insert_ren.t 3)
    have hle := grownCap_le_maxLen W (0 + 1) 0 (lay_insert_ren.t 3) (by unfold maxLen; omega)
    generalize grownCap W (0 + 1) 0 (lay_insert_ren.t 3) = G at *
    rintro r W' ⟨rfl, rfl⟩
    exact ⟨_, rfl, Own.mk (th := [p]) (rest := (Builtin.zeroCells (Value.int .i64 0).cells (G - (0 + 1))).toList) rfl hBW (heap_alloc_new _ _) hge hle (by rw [Array.size_append, zero_size]; simp; omega) (by simp), grownBy_seq (drew_keep _ _) (World.grownBy_alloc _ _ _), .inr ⟨_, rfl, Nat.le_refl _⟩⟩
  · have hgl : g < W.heap.size := (Array.getElem?_eq_some_iff.1 hg).1
    have hvg : vb ≠ g := fun e => hne (by rw [e]; rfl)
    obtain ⟨hgc, hgf, -⟩ := cells_of (l := cur.toList) (g := g) (w := W) (T := 3) (by simpa using hg)
    have hcs : ∀ j v, (th.map (Value.int .i64))[j]? = some v → W.cell? ⟨g, 0 + j, none⟩ = some v := fun j v hj => by
      rw [Nat.zero_add]
      refine hgc j v ?_
      rw [hcur, List.getElem?_append_left (List.getElem?_eq_some_iff.1 hj).1]
      exact hj
    have hcl : (th.map (Value.int .i64)).length = th.length := by simp
    have hcurl : cur.toList.length = cap := by simpa using hs
    have htk : ∀ j, j ≤ th.length → cur.toList.take j = (th.map (Value.int .i64)).take j := fun j hj => by
      rw [hcur, List.take_append_of_le_length (by rw [hcl]; exact hj)]
    have hsome : ∀ j, j < cap → (W.cell? ⟨g, j, none⟩).isSome = true := fun j hj => by
      rw [hgc j cur.toList[j] (List.getElem?_eq_getElem (by omega))]; rfl
    have hm' : cap ≤ 9223372036854775807 := by unfold maxLen at hm; omega
    by_cases hroom : th.length + 1 ≤ cap
    · by_cases hin : i = th.length
      · subst hin
        have hc := Any2.slices_Insert_int_end_room lay_insert g 0 th.length cap vb 0 1 1 [.int .i64 p] W (by omega) hroom hm' rfl (fun j hj => by rw [Nat.zero_add]; exact hsome _ (by omega)) (fun j _ => hgf _) hvs h1v
        change Calls Tryz.prog 130 _ _ _ at hc
        refine hc.mono ?_
        rintro r W' ⟨rfl, rfl⟩
        rw [Nat.zero_add]
        obtain ⟨cur', h1, h2⟩ := setCells_heap g 3 (0, 0) [.int .i64 p] th.length W cur hg (by rw [← hs] at hroom; exact hroom)
        refine ⟨.slice (some ⟨g, 0, none⟩) (th.length + 1) cap, rfl, ?_, setCells_keep _ _ _ _, .inl rfl⟩
        refine Own.mk (rest := cur.toList.drop (th.length + 1)) hlen hB h1 hroom hm ?_ ?_
        · rw [← Array.length_toList, h2]; simp; omega
        · rw [h2, htk _ (Nat.le_refl _), ins_map]
          simp
      · have hc := Any2.slices_Insert_int_shift lay_insert g 0 th.length cap i vb 0 1 1 (th.map (Value.int .i64)) [.int .i64 p] W (by omega) (by omega) hroom hm' hvg hcl rfl hcs (fun j hj => by rw [Nat.zero_add]; exact hsome _ (by omega)) (fun j _ => hgf _) hvs h1c h1v 3 3 1 cap (shape_of hvb) (by rw [← hs]; exact shape_of hg) (by omega) (hvf _) (hvf _)
        change Calls Tryz.prog 130 _ _ _ at hc
        refine hc.mono ?_
        rintro r W' ⟨rfl, rfl⟩
        rw [Nat.zero_add, Nat.zero_add]
        have hdl : ((th.map (Value.int .i64)).drop i).length = th.length - i := by simp
        obtain ⟨cur1, h1, h2⟩ := setCells_heap g 3 (0, 0) ((th.map (Value.int .i64)).drop i) (i + 1) W.drew cur hg (by rw [hdl, hs]; omega)
        have hc1 : cur1.size = cap := by rw [← Array.length_toList, h2]; simp; omega
        obtain ⟨cur2, g1, g2⟩ := setCells_heap g 3 (0, 0) [.int .i64 p] i _ cur1 h1 (by rw [hc1]; simp; omega)
        refine ⟨.slice (some ⟨g, 0, none⟩) (th.length + 1) cap, rfl, ?_, grownBy_seq (grownBy_seq (drew_keep _ _) (setCells_keep _ _ _ _)) (setCells_keep _ _ _ _), .inl rfl⟩
        refine Own.mk (rest := cur.toList.drop (i + 1 + (th.length - i))) hlen hB g1 hroom hm ?_ ?_
        · rw [← Array.length_toList, g2]; simp; omega
        · rw [g2, h2, hdl, ins_map, List.append_assoc (cur.toList.take (i + 1)), drop_head _ _ _ (by simp; omega), List.take_append_of_le_length (by simp; omega), List.take_take, Nat.min_eq_left (by omega), htk i (by omega)]
          simp
    · have hge := grownCap_ge W (th.length + 1) cap (lay_insert_ren.t 3)
      have hle := grownCap_le_maxLen W (th.length + 1) cap (lay_insert_ren.t 3) (by unfold maxLen; omega)
      by_cases hin : i = th.length
      · subst hin
        have hc := Any2.slices_Insert_int_end_grow lay_insert (some ⟨g, 0, none⟩) th.length cap vb 0 1 1 (th.map (Value.int .i64)) [.int .i64 p] W (by omega) hcap (by omega) (by omega) hcl rfl (fun e => by cases e) (fun a e j v hj => by cases e; rw [Addr.add_lit]; exact hcs j v hj) hvs h1v
        change Calls Tryz.prog 130 _ _ _ at hc
        refine hc.mono ?_
        generalize grownCap W (th.length + 1) cap (lay_insert_ren.t 3) = G at *
        rintro r W' ⟨rfl, rfl⟩
        refine ⟨.slice (some ⟨W.heap.size, 0, none⟩) (th.length + 1) G, rfl, ?_, grownBy_seq (drew_keep _ _) (World.grownBy_alloc _ _ _), .inr ⟨_, rfl, Nat.le_refl _⟩⟩
        refine Own.mk (rest := (Builtin.zeroCells (Value.int .i64 0).cells (G - (th.length + 1))).toList) hlen hBW (heap_alloc_new _ _) hge hle ?_ ?_
        · rw [Array.size_append, zero_size]; simp; omega
        · rw [ins_map, List.take_of_length_le (Nat.le_of_eq hcl), List.drop_of_length_le (Nat.le_of_eq hcl)]; simp
      · have hc := Any2.slices_Insert_int_grow lay_insert g 0 th.length cap i vb 0 1 1 (th.map (Value.int .i64)) [.int .i64 p] W (by omega) (by omega) hcap (by omega) (by omega) hcl rfl hcs hvs h1c h1v
        change Calls Tryz.prog 130 _ _ _ at hc
        refine hc.mono ?_
        generalize grownCap W (th.length + 1) cap (lay_insert_ren.t 3) = G at *
        rintro r W' ⟨rfl, rfl⟩
        have hA : (((th.map (Value.int .i64)).take i).toArray ++ Builtin.zeroCells (Value.int .i64 0).cells (th.length + 1 - i) ++ Builtin.zeroCells (Value.int .i64 0).cells (G - (th.length + 1))).size = G := by
          rw [Array.size_append, Array.size_append, zero_size, zero_size]; simp; omega
        obtain ⟨cur1, h1, h2⟩ := setCells_heap W.heap.size 3 (0, 0) [.int .i64 p] i (W.alloc (.cells (((th.map (Value.int .i64)).take i).toArray ++ Builtin.zeroCells (Value.int .i64 0).cells (th.length + 1 - i) ++ Builtin.zeroCells (Value.int .i64 0).cells (G - (th.length + 1))) 3)).drew _ (heap_alloc_new _ _) (by rw [hA]; simp; omega)
        have hc1 : cur1.size = G := by rw [← Array.length_toList, h2]; simp [zero_size]; omega
        have hdl : ((th.map (Value.int .i64)).drop i).length = th.length - i := by simp
        obtain ⟨cur2, g1, g2⟩ := setCells_heap W.heap.size 3 (0, 0) ((th.map (Value.int .i64)).drop i) (i + 1) (((W.alloc (.cells (((th.map (Value.int .i64)).take i).toArray ++ Builtin.zeroCells (Value.int .i64 0).cells (th.length + 1 - i) ++ Builtin.zeroCells (Value.int .i64 0).cells (G - (th.length + 1))) 3)).drew.setCells W.heap.size i [.int .i64 p]).drew) cur1 h1 (by rw [hc1, hdl]; omega)
        refine ⟨.slice (some ⟨W.heap.size, 0, none⟩) (th.length + 1) G, rfl, ?_, ?_, .inr ⟨_, rfl, Nat.le_refl _⟩⟩
        · refine Own.mk (rest := cur1.toList.drop (i + 1 + (th.length - i))) hlen hBW g1 hge hle ?_ ?_
          · rw [← Array.length_toList, g2]; simp; omega
          · rw [g2, hdl, ins_map]
            congr 2
            rw [h2]
            rw [List.take_append_of_le_length (by simp; omega), List.take_of_length_le (by simp; omega)]
            congr 1
            rw [Array.toList_append, Array.toList_append, List.append_assoc, take_head _ _ _ (by simp; omega)]
        · have k1 := World.grownBy_alloc W (.cells (((th.map (Value.int .i64)).take i).toArray ++ Builtin.zeroCells (Value.int .i64 0).cells (th.length + 1 - i) ++ Builtin.zeroCells (Value.int .i64 0).cells (G - (th.length + 1))) 3) (Value.slice (some ⟨g, 0, none⟩) th.length cap).ownBlock
          have k2 := setCells_keep W.heap.size [.int .i64 p] i (W.alloc (.cells (((th.map (Value.int .i64)).take i).toArray ++ Builtin.zeroCells (Value.int .i64 0).cells (th.length + 1 - i) ++ Builtin.zeroCells (Value.int .i64 0).cells (G - (th.length + 1))) 3)).drew
          have k3 := setCells_keep W.heap.size ((th.map (Value.int .i64)).drop i) (i + 1) (((W.alloc (.cells (((th.map (Value.int .i64)).take i).toArray ++ Builtin.zeroCells (Value.int .i64 0).cells (th.length + 1 - i) ++ Builtin.zeroCells (Value.int .i64 0).cells (G - (th.length + 1))) 3)).drew.setCells W.heap.size i [.int .i64 p]).drew)
          have s1 := k1.size
          have s2 := k2.size
          have s3 := k3.size
          refine ⟨k3.os.trans (k2.os.trans k1.os), k3.tape.trans (k2.tape.trans k1.tape), k3.output.trans (k2.output.trans k1.output), Nat.le_trans s1 (Nat.le_trans s2 s3), fun k hk hne' => ?_⟩
          have hkn : some k ≠ some W.heap.size := fun e => by cases e; omega
          exact (k3.block k (Nat.lt_of_lt_of_le hk (Nat.le_trans s1 s2)) hkn).trans ((k2.block k (Nat.lt_of_lt_of_le hk s1) hkn).trans (k1.block k hk hne'))
end Go.Proofs.YtccoobcggbbciaiGreatDoor.S8
