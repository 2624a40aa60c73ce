import Derived.Test.YtccoobcggbbciakDoorKJ0
import Derived.Test.YtccoobcggbbciakDoorKL0
namespace Go.Proofs.YtccoobcggbbciakDoor
open Go.ChangeShapes Go.WideShapes Go.ChangeAt Go.RowKit Go.Sort

theorem setCells_heap (g : Nat) (e : TypeId) (fr : Nat × Nat) : ∀ (vs : List Value) (o : Nat) (W : World) (cur : Array Value), W.heap[g]? = some (.cells cur e fr) → o + vs.length ≤ cur.size →
    ∃ cur', (W.setCells g o vs).heap[g]? = some (.cells cur' e fr) ∧ cur'.toList = cur.toList.take o ++ vs ++ cur.toList.drop (o + vs.length)
  | [], o, W, cur, h, _ => ⟨cur, h, by simp⟩
  | v :: r, o, W, cur, h, hl => by
    simp only [List.length_cons] at hl
    obtain ⟨cur', h1, h2⟩ := setCells_heap g e fr r (o + 1) (W.setCell ⟨g, o, none⟩ v) (cur.setIfInBounds o v) (setCell_at h) (by simp; omega)
    refine ⟨cur', h1, ?_⟩
    rw [h2, Array.toList_setIfInBounds, List.take_set, List.drop_set_of_lt (by omega)]
    have : ((cur.toList.take (o + 1)).set o v) = cur.toList.take o ++ [v] := by
      have hlen : o < cur.toList.length := by simp; omega
      rw [List.take_add_one, List.getElem?_eq_getElem hlen, List.set_append_right _ _ (by simp; omega)]
      simp [show min o cur.size = o by omega]
    rw [this]
    simp [show o + 1 + r.length = o + (r.length + 1) by omega]

theorem setCells_keep (g : Nat) : ∀ (vs : List Value) (o : Nat) (W : World), W.grownBy (W.setCells g o vs) (some g)
  | [], _, W => ⟨rfl, rfl, rfl, Nat.le_refl _, fun _ _ _ => rfl⟩
  | v :: r, o, W => by
    have h := setCells_keep g r (o + 1) (W.setCell ⟨g, o, none⟩ v)
    refine ⟨h.os, h.tape, h.output, ?_, fun k hk hne => ?_⟩
    · have e : (W.setCell ⟨g, o, none⟩ v).heap.size = W.heap.size := by simp
      exact e ▸ h.size
    · have hk' : k < (W.setCell ⟨g, o, none⟩ v).heap.size := by simpa using hk
      rw [World.setCells, h.block k hk' hne, Below.heap_setCell _ _ _ _ (by intro e; exact hne (by rw [show k = g from e]))]

theorem setCells_size (g : Nat) : ∀ (vs : List Value) (o : Nat) (W : World), (W.setCells g o vs).heap.size = W.heap.size
  | [], _, _ => rfl
  | v :: r, o, W => by rw [World.setCells, setCells_size g r]; simp

theorem grownBy_seq {a b c : World} {row : Option Nat} (h : a.grownBy b row) (k : b.grownBy c row) : a.grownBy c row := h.trans k

def OwnS (W : World) (B : Nat) (tv : Value) (th : List ByteArray) : Prop := W.ownsRow B 9 1 tv th.length (th.map (Value.string))

theorem OwnS.cases {W : World} {B : Nat} {tv : Value} {th : List ByteArray} (h : OwnS W B tv th) : (tv = .slice none 0 0 ∧ th = []) ∨ ∃ g cap cur, tv = .slice (some ⟨g, 0, none⟩) th.length cap ∧ B ≤ g ∧ W.heap[g]? = some (.cells cur 9 (0, 0)) ∧ th.length ≤ cap ∧ cap ≤ maxLen ∧ cur.size = cap ∧ cur.toList = th.map (Value.string) ++ cur.toList.drop th.length := by
  obtain ⟨hl, ⟨h1, h2⟩ | ⟨g, cap, cur, h1, h2, h3, h4, h5, h6, h7⟩⟩ := h
  · exact .inl ⟨h1, List.eq_nil_of_length_eq_zero h2⟩
  · refine .inr ⟨g, cap, cur, h1, h2, h3, h4, h5, by omega, ?_⟩
    rw [Nat.mul_one] at h7
    rw [← h7]
    exact (List.take_append_drop _ _).symm

theorem OwnS.mk {W : World} {B g cap n : Nat} {th : List ByteArray} {cur : Array Value} {rest : List Value} (hn : th.length = n) (hB : B ≤ g) (hg : W.heap[g]? = some (.cells cur 9 (0, 0))) (hcap : n ≤ cap) (hm : cap ≤ maxLen) (hs : cur.size = cap) (hc : cur.toList = th.map (Value.string) ++ rest) : OwnS W B (.slice (some ⟨g, 0, none⟩) n cap) th := by
  subst hn
  refine ⟨by simp, .inr ⟨g, cap, cur, rfl, hB, hg, hcap, hm, by omega, ?_⟩⟩
  rw [Nat.mul_one, hc, List.take_append_of_le_length (by simp), List.take_of_length_le (by simp)]

theorem OwnS.cell {W : World} {B g cap : Nat} {th : List ByteArray} (h : OwnS W B (.slice (some ⟨g, 0, none⟩) th.length cap) th) {j : Nat} {z : ByteArray} (hj : th[j]? = some z) : W.cell? ⟨g, j, none⟩ = some (.string z) := by
  have := h.cellAt j (by have := (List.getElem?_eq_some_iff.1 hj).1; omega)
  rw [this, List.getElem?_map, hj]
  rfl

theorem drop_head {α : Type} (a b : List α) (n : Nat) (h : a.length = n) : (a ++ b).drop n = b := by subst h; simp
theorem take_head {α : Type} (a b : List α) (n : Nat) (h : a.length = n) : (a ++ b).take n = a := by subst h; simp

theorem shape_of {W : World} {g : Nat} {cur : Array Value} {e : TypeId} {fr : Nat × Nat} (h : W.heap[g]? = some (.cells cur e fr)) : W.shape? g = some (e, cur.size) := by
  unfold World.shape?; rw [h]

theorem drew_keep (W : World) (row : Option Nat) : W.grownBy W.drew row := ⟨rfl, rfl, rfl, Nat.le_refl _, fun _ _ _ => rfl⟩

theorem zeroS_size (n : Nat) : (Builtin.zeroCells (Value.string ⟨#[]⟩).cells n).size = n := by simp [Builtin.zeroCells, Value.cells]

theorem ins_map (th : List ByteArray) (i : Nat) (p : ByteArray) : (th.take i ++ p :: th.drop i).map (Value.string) = (th.map (Value.string)).take i ++ [.string p] ++ (th.map (Value.string)).drop i := by
  simp [List.map_take, List.map_drop]

/-- Insert, of one. -/
theorem InsertS_own (W : World) (B : Nat) (tv : Value) (th : List ByteArray) (i vb : Nat) (p : ByteArray) (h : OwnS W B tv th) (hi : i ≤ th.length) (hl : th.length ≤ 100000) (hvb : W.heap[vb]? = some (.cells #[.string p] 9 (0, 0))) (hne : tv.ownBlock ≠ some vb) (hBW : B ≤ W.heap.size) :
    Calls Tryd.prog 46 #[tv, .int .i64 (i : Int), .slice (some ⟨vb, 0, none⟩) 1 1] W fun r W' => ∃ tv', r = .returned tv' ∧ OwnS W' B tv' (th.take i ++ p :: th.drop i) ∧ W.grownBy W' tv.ownBlock ∧ (tv'.ownBlock = tv.ownBlock ∨ ∃ g, tv'.ownBlock = some g ∧ W.heap.size ≤ g) := by
  have hlen : (th.take i ++ p :: th.drop i).length = th.length + 1 := by simp; omega
  obtain ⟨hvc, hvf, hvl⟩ := cells_of (l := [.string p]) hvb
  have hvs : ∀ j v, [Value.string p][j]? = some v → W.cell? ⟨vb, 0 + j, none⟩ = some v := fun j v hj => by rw [Nat.zero_add]; exact hvc j v hj
  have h1v : ∀ v ∈ [Value.string p], v.oneCell' = true := fun v hv => by simp at hv; subst hv; rfl
  have h1c : ∀ v ∈ th.map (Value.string), v.oneCell' = true := fun v hv => by obtain ⟨z, -, rfl⟩ := List.mem_map.1 hv; rfl
  rcases h.cases with ⟨rfl, rfl⟩ | ⟨g, cap, cur, rfl, hB, hg, hcap, hm, hs, hcur⟩
  · have i0 : i = 0 := by simpa using hi
    subst i0
    have hc := Any2.slices_Insert_string_end_grow lays_ins none 0 0 vb 0 1 1 [] [.string p] W (by omega) (by omega) (by omega) (by omega) rfl rfl (fun _ => rfl) (fun a e => by cases e) hvs h1v
    change Calls Tryd.prog 46 _ _ _ at hc
    refine hc.mono ?_
    have hge := grownCap_ge W (0 + 1) 0 (lays_ins_ren.t 9)
    have hle := grownCap_le_maxLen W (0 + 1) 0 (lays_ins_ren.t 9) (by unfold maxLen; omega)
    generalize grownCap W (0 + 1) 0 (lays_ins_ren.t 9) = G at *
    rintro r W' ⟨rfl, rfl⟩
    exact ⟨_, rfl, OwnS.mk (th := [p]) (rest := (Builtin.zeroCells (Value.string ⟨#[]⟩).cells (G - (0 + 1))).toList) rfl hBW (heap_alloc_new _ _) hge hle (by rw [Array.size_append, zeroS_size]; simp; omega) (by simp), grownBy_seq (drew_keep _ _) (World.grownBy_alloc _ _ _), .inr ⟨_, rfl, Nat.le_refl _⟩⟩
  · have hgl : g < W.heap.size := (Array.getElem?_eq_some_iff.1 hg).1
    have hvg : vb ≠ g := fun e => hne (by rw [e]; rfl)
    obtain ⟨hgc, hgf, -⟩ := cells_of (l := cur.toList) (g := g) (w := W) (T := 9) (by simpa using hg)
    have hcs : ∀ j v, (th.map (Value.string))[j]? = some v → W.cell? ⟨g, 0 + j, none⟩ = some v := fun j v hj => by
      rw [Nat.zero_add]
      refine hgc j v ?_
      rw [hcur, List.getElem?_append_left (List.getElem?_eq_some_iff.1 hj).1]
      exact hj
    have hcl : (th.map (Value.string)).length = th.length := by simp
    have hcurl : cur.toList.length = cap := by simpa using hs
    have htk : ∀ j, j ≤ th.length → cur.toList.take j = (th.map (Value.string)).take j := fun j hj => by
      rw [hcur, List.take_append_of_le_length (by rw [hcl]; exact hj)]
    have hsome : ∀ j, j < cap → (W.cell? ⟨g, j, none⟩).isSome = true := fun j hj => by
      rw [hgc j cur.toList[j] (List.getElem?_eq_getElem (by omega))]; rfl
    have hm' : cap ≤ 9223372036854775807 := by unfold maxLen at hm; omega
    by_cases hroom : th.length + 1 ≤ cap
    · by_cases hin : i = th.length
      · subst hin
        have hc := Any2.slices_Insert_string_end_room lays_ins g 0 th.length cap vb 0 1 1 [.string p] W (by omega) hroom hm' rfl (fun j hj => by rw [Nat.zero_add]; exact hsome _ (by omega)) (fun j _ => hgf _) hvs h1v
        change Calls Tryd.prog 46 _ _ _ at hc
        refine hc.mono ?_
        rintro r W' ⟨rfl, rfl⟩
        rw [Nat.zero_add]
        obtain ⟨cur', h1, h2⟩ := setCells_heap g 9 (0, 0) [.string p] th.length W cur hg (by rw [← hs] at hroom; exact hroom)
        refine ⟨.slice (some ⟨g, 0, none⟩) (th.length + 1) cap, rfl, ?_, setCells_keep _ _ _ _, .inl rfl⟩
        refine OwnS.mk (rest := cur.toList.drop (th.length + 1)) hlen hB h1 hroom hm ?_ ?_
        · rw [← Array.length_toList, h2]; simp; omega
        · rw [h2, htk _ (Nat.le_refl _), ins_map]
          simp
      · have hc := Any2.slices_Insert_string_shift lays_ins g 0 th.length cap i vb 0 1 1 (th.map (Value.string)) [.string p] W (by omega) (by omega) hroom hm' hvg hcl rfl hcs (fun j hj => by rw [Nat.zero_add]; exact hsome _ (by omega)) (fun j _ => hgf _) hvs h1c h1v 9 9 1 cap (shape_of hvb) (by rw [← hs]; exact shape_of hg) (by omega) (hvf _) (hvf _)
        change Calls Tryd.prog 46 _ _ _ at hc
        refine hc.mono ?_
        rintro r W' ⟨rfl, rfl⟩
        rw [Nat.zero_add, Nat.zero_add]
        have hdl : ((th.map (Value.string)).drop i).length = th.length - i := by simp
        obtain ⟨cur1, h1, h2⟩ := setCells_heap g 9 (0, 0) ((th.map (Value.string)).drop i) (i + 1) W.drew cur hg (by rw [hdl, hs]; omega)
        have hc1 : cur1.size = cap := by rw [← Array.length_toList, h2]; simp; omega
        obtain ⟨cur2, g1, g2⟩ := setCells_heap g 9 (0, 0) [.string p] i _ cur1 h1 (by rw [hc1]; simp; omega)
        refine ⟨.slice (some ⟨g, 0, none⟩) (th.length + 1) cap, rfl, ?_, grownBy_seq (grownBy_seq (drew_keep _ _) (setCells_keep _ _ _ _)) (setCells_keep _ _ _ _), .inl rfl⟩
        refine OwnS.mk (rest := cur.toList.drop (i + 1 + (th.length - i))) hlen hB g1 hroom hm ?_ ?_
        · rw [← Array.length_toList, g2]; simp; omega
        · rw [g2, h2, hdl, ins_map, List.append_assoc (cur.toList.take (i + 1)), drop_head _ _ _ (by simp; omega), List.take_append_of_le_length (by simp; omega), List.take_take, Nat.min_eq_left (by omega), htk i (by omega)]
          simp
    · have hge := grownCap_ge W (th.length + 1) cap (lays_ins_ren.t 9)
      have hle := grownCap_le_maxLen W (th.length + 1) cap (lays_ins_ren.t 9) (by unfold maxLen; omega)
      by_cases hin : i = th.length
      · subst hin
        have hc := Any2.slices_Insert_string_end_grow lays_ins (some ⟨g, 0, none⟩) th.length cap vb 0 1 1 (th.map (Value.string)) [.string p] W (by omega) hcap (by omega) (by omega) hcl rfl (fun e => by cases e) (fun a e j v hj => by cases e; rw [Addr.add_lit]; exact hcs j v hj) hvs h1v
        change Calls Tryd.prog 46 _ _ _ at hc
        refine hc.mono ?_
        generalize grownCap W (th.length + 1) cap (lays_ins_ren.t 9) = G at *
        rintro r W' ⟨rfl, rfl⟩
        refine ⟨.slice (some ⟨W.heap.size, 0, none⟩) (th.length + 1) G, rfl, ?_, grownBy_seq (drew_keep _ _) (World.grownBy_alloc _ _ _), .inr ⟨_, rfl, Nat.le_refl _⟩⟩
        refine OwnS.mk (rest := (Builtin.zeroCells (Value.string ⟨#[]⟩).cells (G - (th.length + 1))).toList) hlen hBW (heap_alloc_new _ _) hge hle ?_ ?_
        · rw [Array.size_append, zeroS_size]; simp; omega
        · rw [ins_map, List.take_of_length_le (Nat.le_of_eq hcl), List.drop_of_length_le (Nat.le_of_eq hcl)]; simp
      · have hc := Any2.slices_Insert_string_grow lays_ins g 0 th.length cap i vb 0 1 1 (th.map (Value.string)) [.string p] W (by omega) (by omega) hcap (by omega) (by omega) hcl rfl hcs hvs h1c h1v
        change Calls Tryd.prog 46 _ _ _ at hc
        refine hc.mono ?_
        generalize grownCap W (th.length + 1) cap (lays_ins_ren.t 9) = G at *
        rintro r W' ⟨rfl, rfl⟩
        have hA : (((th.map (Value.string)).take i).toArray ++ Builtin.zeroCells (Value.string ⟨#[]⟩).cells (th.length + 1 - i) ++ Builtin.zeroCells (Value.string ⟨#[]⟩).cells (G - (th.length + 1))).size = G := by
          rw [Array.size_append, Array.size_append, zeroS_size, zeroS_size]; simp; omega
        obtain ⟨cur1, h1, h2⟩ := setCells_heap W.heap.size 9 (0, 0) [.string p] i (W.alloc (.cells (((th.map (Value.string)).take i).toArray ++ Builtin.zeroCells (Value.string ⟨#[]⟩).cells (th.length + 1 - i) ++ Builtin.zeroCells (Value.string ⟨#[]⟩).cells (G - (th.length + 1))) 9)).drew _ (heap_alloc_new _ _) (by rw [hA]; simp; omega)
        have hc1 : cur1.size = G := by rw [← Array.length_toList, h2]; simp [zeroS_size]; omega
        have hdl : ((th.map (Value.string)).drop i).length = th.length - i := by simp
        obtain ⟨cur2, g1, g2⟩ := setCells_heap W.heap.size 9 (0, 0) ((th.map (Value.string)).drop i) (i + 1) (((W.alloc (.cells (((th.map (Value.string)).take i).toArray ++ Builtin.zeroCells (Value.string ⟨#[]⟩).cells (th.length + 1 - i) ++ Builtin.zeroCells (Value.string ⟨#[]⟩).cells (G - (th.length + 1))) 9)).drew.setCells W.heap.size i [.string p]).drew) cur1 h1 (by rw [hc1, hdl]; omega)
        refine ⟨.slice (some ⟨W.heap.size, 0, none⟩) (th.length + 1) G, rfl, ?_, ?_, .inr ⟨_, rfl, Nat.le_refl _⟩⟩
        · refine OwnS.mk (rest := cur1.toList.drop (i + 1 + (th.length - i))) hlen hBW g1 hge hle ?_ ?_
          · rw [← Array.length_toList, g2]; simp; omega
          · rw [g2, hdl, ins_map]
            congr 2
            rw [h2]
            rw [List.take_append_of_le_length (by simp; omega), List.take_of_length_le (by simp; omega)]
            congr 1
            rw [Array.toList_append, Array.toList_append, List.append_assoc, take_head _ _ _ (by simp; omega)]
        · have k1 := World.grownBy_alloc W (.cells (((th.map (Value.string)).take i).toArray ++ Builtin.zeroCells (Value.string ⟨#[]⟩).cells (th.length + 1 - i) ++ Builtin.zeroCells (Value.string ⟨#[]⟩).cells (G - (th.length + 1))) 9) (Value.slice (some ⟨g, 0, none⟩) th.length cap).ownBlock
          have k2 := setCells_keep W.heap.size [.string p] i (W.alloc (.cells (((th.map (Value.string)).take i).toArray ++ Builtin.zeroCells (Value.string ⟨#[]⟩).cells (th.length + 1 - i) ++ Builtin.zeroCells (Value.string ⟨#[]⟩).cells (G - (th.length + 1))) 9)).drew
          have k3 := setCells_keep W.heap.size ((th.map (Value.string)).drop i) (i + 1) (((W.alloc (.cells (((th.map (Value.string)).take i).toArray ++ Builtin.zeroCells (Value.string ⟨#[]⟩).cells (th.length + 1 - i) ++ Builtin.zeroCells (Value.string ⟨#[]⟩).cells (G - (th.length + 1))) 9)).drew.setCells W.heap.size i [.string p]).drew)
          have s1 := k1.size
          have s2 := k2.size
          have s3 := k3.size
          refine ⟨k3.os.trans (k2.os.trans k1.os), k3.tape.trans (k2.tape.trans k1.tape), k3.output.trans (k2.output.trans k1.output), Nat.le_trans s1 (Nat.le_trans s2 s3), fun k hk hne' => ?_⟩
          have hkn : some k ≠ some W.heap.size := fun e => by cases e; omega
          exact (k3.block k (Nat.lt_of_lt_of_le hk (Nat.le_trans s1 s2)) hkn).trans ((k2.block k (Nat.lt_of_lt_of_le hk s1) hkn).trans (k1.block k hk hne'))

end Go.Proofs.YtccoobcggbbciakDoor
