import Derived.Test.YtccoobcggbbciaiGreatDoorMR
import Derived.Test.YtccoobcggbbciaiGreatDoorGN
namespace Go.Proofs.YtccoobcggbbciaiGreatDoor
open Go.ChangeShapes Go.WideShapes Go.ChangeAt Go.RowKit
/-- So many jobs are laid, and room. -/
def jbCells (n : Nat) (js : List Jb) : List Value := js.flatMap Jb.vals ++ List.replicate ((n - js.length) * 5) (.int .i64 0)
theorem jbCells_full (js : List Jb) : jbCells js.length js = js.flatMap Jb.vals := by simp [jbCells]
theorem jbCells_split {n : Nat} {js : List Jb} (h : js.length < n) : jbCells n js = js.flatMap Jb.vals ++ (.int .i64 0 :: .int .i64 0 :: .int .i64 0 :: .int .i64 0 :: .int .i64 0 :: List.replicate ((n - (js.length + 1)) * 5) (.int .i64 0)) := by
  unfold jbCells
  obtain ⟨m, hm⟩ : ∃ m, n - js.length = m + 1 := ⟨n - js.length - 1, by omega⟩
  rw [hm, show n - (js.length + 1) = m by omega, show (m + 1) * 5 = m * 5 + 5 by omega]
  simp [List.replicate_succ]
theorem jbCells_put {n : Nat} {js : List Jb} (h : js.length < n) (x : Jb) : ((((((jbCells n js).set (js.length * 5) (.int .i64 x.k)).set (js.length * 5 + 1) (.int .i64 x.a)).set (js.length * 5 + 2) (.int .i64 x.c)).set (js.length * 5 + 3) (.int .i64 x.d)).set (js.length * 5 + 4) (.int .i64 x.p)) = jbCells n (js ++ [x]) := by
  rw [jbCells_split h]
  have hl := flat_length Jb.vals 5 Jb.len js
  generalize hA : js.flatMap Jb.vals = A at *
  rw [← hl]
  have key : ∀ (B : List Value) (i : Nat) (v : Value), (A ++ B).set (A.length + i) v = A ++ B.set i v := fun B i v => by
    rw [List.set_append_right _ _ (by omega)]
    congr 1
    rw [Nat.add_sub_cancel_left]
  have key0 : ∀ (B : List Value) (v : Value), (A ++ B).set A.length v = A ++ B.set 0 v := fun B v => key B 0 v
  rw [key0, key, key, key, key]
  simp only [List.set_cons_zero, List.set_cons_succ]
  unfold jbCells
  rw [List.flatMap_append, hA, List.length_append]
  simp [Jb.vals]
theorem jbCells_len {n : Nat} {js : List Jb} (h : js.length ≤ n) : (jbCells n js).length = n * 5 := by
  unfold jbCells
  rw [List.length_append, flat_length Jb.vals 5 Jb.len, List.length_replicate]
  omega
theorem made_jb (n : Nat) : madeCells (Value.agg #[.int .i64 0, .int .i64 0, .int .i64 0, .int .i64 0, .int .i64 0]).cells (n * 5) = (jbCells n []).toArray := by
  apply Array.ext
  · simp [madeCells, jbCells]
  · intro i h1 h2
    have hm : i % 5 < 5 := Nat.mod_lt _ (by omega)
    simp only [madeCells, jbCells, Value.cells, List.flatMap_nil, List.nil_append, List.getElem_toArray, List.getElem_replicate]
    rcases (show i % 5 = 0 ∨ i % 5 = 1 ∨ i % 5 = 2 ∨ i % 5 = 3 ∨ i % 5 = 4 by omega) with e | e | e | e | e <;> simp [e]
theorem make_jobs (W : World) (n : Nat) (hn : n ≤ 4000) : ∃ W', (Instr.makeSlice 54 (.int .i64 (n : Int)) (.int .i64 (n : Int))).run Tryz.prog W = .ok (.slice (some ⟨W.heap.size, 0, none⟩) n n) W' ∧ Below W.heap.size W W' ∧ W'.heap[W.heap.size]? = some (.cells (jbCells n []).toArray 63 (0, 0)) := by
  obtain ⟨i0, hi0, hz0, hz1, hz2⟩ := info_parts infoJb
  have h := run_make (P := Tryz.prog) W 54 63 i0 _ Tryz.underlying54 hi0 hz0 .i64 .i64 (n : Int) (n : Int) (by omega) (by omega) (by rw [hz2]; omega) (by omega)
  rw [Int.toNat_natCast, hz1, made_jb] at h
  exact ⟨_, h, below_new _ _, heap_alloc_new _ _⟩


/-- The jobs of comings. -/
def jsF (set : List Cr) (cs : List Co) (tk : List Int) : List Jb := (List.range cs.length).map fun i => ⟨0, (cs.getD i ⟨0, 0⟩).a, tk.getD i 0, 0, (crOf set cs i).p⟩
theorem jsF_len (set : List Cr) (cs : List Co) (tk : List Int) : (jsF set cs tk).length = cs.length := by simp [jsF]
theorem jsF_snoc {set : List Cr} {cs : List Co} {tk : List Int} {j : Nat} (h : j < cs.length) : jsF set (cs.take (j + 1)) tk = jsF set (cs.take j) tk ++ [⟨0, (cs.getD j ⟨0, 0⟩).a, tk.getD j 0, 0, (crOf set cs j).p⟩] := by
  have e1 : (cs.take (j + 1)).length = j + 1 := by rw [List.length_take]; omega
  have e2 : (cs.take j).length = j := by rw [List.length_take]; omega
  unfold jsF
  rw [e1, e2, List.range_succ, List.map_append]
  have key : ∀ m i, i < m → m ≤ cs.length → (cs.take m).getD i ⟨0, 0⟩ = cs.getD i ⟨0, 0⟩ := fun m i hi hm => by
    rw [List.getD_eq_getElem?_getD, List.getD_eq_getElem?_getD, List.getElem?_take, if_pos hi]
  congr 1
  · apply List.map_congr_left
    intro i hi
    have hi' : i < j := by simpa using hi
    unfold crOf
    rw [key (j + 1) i (by omega) (by omega), key j i hi' (by omega)]
  · simp only [List.map_cons, List.map_nil]
    unfold crOf
    rw [key (j + 1) j (by omega) (by omega)]

theorem jsF_at {set : List Cr} {cs : List Co} {tk : List Int} {j : Nat} (h : j < cs.length) : S8.J (jsF set cs tk) j = ⟨0, (cs.getD j ⟨0, 0⟩).a, tk.getD j 0, 0, (crOf set cs j).p⟩ := by
  unfold S8.J jsF
  rw [List.getD_eq_getElem?_getD, List.getElem?_map, List.getElem?_range h]
  rfl

/-- What playModal tells. -/
def PMPost (w : World) (set : List Cr) (cs : List Co) (tk : List Int) (n : Nat) (r : Ending) (W' : World) : Prop := ∃ s T rb eb, PlaysT (jsF set cs tk) (hiOf set cs) (fun j => (crOf set cs j).c) n s T ∧ r = .returned (.agg #[.slice (some ⟨rb, 0, none⟩) n n, .slice (some ⟨eb, 0, none⟩) cs.length cs.length, .int .i64 T]) ∧ W'.heap[rb]? = some (.cells (s.runs.map (Value.int .i64)).toArray 3 (0, 0)) ∧ W'.heap[eb]? = some (.cells (s.ends.map (Value.int .i64)).toArray 3 (0, 0)) ∧ rb ≠ eb ∧ w.heap.size ≤ rb ∧ w.heap.size ≤ eb ∧ Below w.heap.size w W'

/-- What playModal holds ahead of its play. -/
structure PM (w W : World) (n g : Nat) (js : List Jb) (sv qv tv : Value) : Prop where
  bel : Below w.heap.size w W
  b0 : W.heap[w.heap.size]? = some (.cells #[sv] 22 (0, 0))
  b1 : W.heap[w.heap.size + 1]? = some (.cells #[qv] 23 (0, 0))
  b2 : W.heap[w.heap.size + 2]? = some (.cells #[tv] 24 (0, 0))
  b3 : W.heap[w.heap.size + 3]? = some (.cells #[.slice none 0 0, .slice none 0 0, .int .i64 0] 43 (0, 0))
  b4 : W.heap[w.heap.size + 4]? = some (.cells #[.slice none 0 0, .slice none 0 0, .int .i64 (-1)] 43 (0, 0))
  b5 : W.heap[w.heap.size + 5]? = some (.cells #[.func (.func 67) #[] #[.pointer (some ⟨w.heap.size, 0, none⟩), .pointer (some ⟨w.heap.size + 1, 0, none⟩)]] 117 (0, 0))
  row : W.heap[g]? = some (.cells (jbCells n js).toArray 63 (0, 0))
  low : w.heap.size + 5 < g

theorem PM.grow {w W W' : World} {n g : Nat} {js : List Jb} {sv qv tv : Value} (h : PM w W n g js sv qv tv) (hb : Below W.heap.size W W') : PM w W' n g js sv qv tv :=
  ⟨below_seq h.bel hb, (hb.block _ (lt_heapM h.b0)).trans h.b0, (hb.block _ (lt_heapM h.b1)).trans h.b1, (hb.block _ (lt_heapM h.b2)).trans h.b2, (hb.block _ (lt_heapM h.b3)).trans h.b3, (hb.block _ (lt_heapM h.b4)).trans h.b4, (hb.block _ (lt_heapM h.b5)).trans h.b5, (hb.block _ (lt_heapM h.row)).trans h.row, h.low⟩

theorem PM.put {w W : World} {n g : Nat} {js : List Jb} {sv qv tv : Value} (h : PM w W n g js sv qv tv) (hn : js.length < n) (x : Jb) : PM w (((((W.setCell ⟨g, js.length * 5, none⟩ (.int .i64 x.k)).setCell ⟨g, js.length * 5 + 1, none⟩ (.int .i64 x.a)).setCell ⟨g, js.length * 5 + 2, none⟩ (.int .i64 x.c)).setCell ⟨g, js.length * 5 + 3, none⟩ (.int .i64 x.d)).setCell ⟨g, js.length * 5 + 4, none⟩ (.int .i64 x.p)) n g (js ++ [x]) sv qv tv := by
  have hl := h.low
  have hg : w.heap.size ≤ g := by omega
  have keep : ∀ q, q ≠ g → (((((W.setCell ⟨g, js.length * 5, none⟩ (.int .i64 x.k)).setCell ⟨g, js.length * 5 + 1, none⟩ (.int .i64 x.a)).setCell ⟨g, js.length * 5 + 2, none⟩ (.int .i64 x.c)).setCell ⟨g, js.length * 5 + 3, none⟩ (.int .i64 x.d)).setCell ⟨g, js.length * 5 + 4, none⟩ (.int .i64 x.p)).heap[q]? = W.heap[q]? := fun q hq => by
    rw [Below.heap_setCell _ _ _ _ hq, Below.heap_setCell _ _ _ _ hq, Below.heap_setCell _ _ _ _ hq, Below.heap_setCell _ _ _ _ hq, Below.heap_setCell _ _ _ _ hq]
  refine ⟨((((h.bel.setCell hg _).setCell hg _).setCell hg _).setCell hg _).setCell hg _, (keep _ (by omega)).trans h.b0, (keep _ (by omega)).trans h.b1, (keep _ (by omega)).trans h.b2, (keep _ (by omega)).trans h.b3, (keep _ (by omega)).trans h.b4, (keep _ (by omega)).trans h.b5, ?_, h.low⟩
  rw [S8.setCell_list (S8.setCell_list (S8.setCell_list (S8.setCell_list (S8.setCell_list h.row)))), jbCells_put hn]

theorem PM.jobs {w W : World} {g : Nat} {js : List Jb} {sv qv tv : Value} (h : PM w W js.length g js sv qv tv) : RowSl Jb.vals W js (.slice (some ⟨g, 0, none⟩) js.length js.length) := by
  have hr := h.row
  rw [jbCells_full] at hr
  refine ⟨some ⟨g, 0, none⟩, js.length, rfl, (fun e => by cases e), Nat.le_refl _, Or.inr ⟨g, 0, rfl, fun q u hq => ?_⟩⟩
  rw [Nat.zero_add]
  exact (cells_of hr).1 q u hq

theorem PM.of {w W : World} {n g : Nat} {js : List Jb} {sv qv tv : Value} {set : List Cr} {cs : List Co} (h : PM w W n g js sv qv tv) (hs : RowSl Cr.vals w set sv) (hc : RowSl Co.vals w cs qv) : OfW W set cs sv qv w.heap.size (w.heap.size + 1) (w.heap.size + 5) :=
  ⟨(cells_of (l := [_]) h.b0).1 0 _ rfl, (cells_of (l := [_]) h.b1).1 0 _ rfl, (cells_of (l := [_]) h.b5).1 0 _ rfl, hs.below h.bel, hc.below h.bel⟩

theorem cell_fived {w : World} {g j o : Nat} {b : Nat} {b0 b1 b2 b3 b4 : Value} (h : ¬ b = g) : (((((w.setCell ⟨g, j * 5, none⟩ b0).setCell ⟨g, j * 5 + 1, none⟩ b1).setCell ⟨g, j * 5 + 2, none⟩ b2).setCell ⟨g, j * 5 + 3, none⟩ b3).setCell ⟨g, j * 5 + 4, none⟩ b4).cell? ⟨b, o, none⟩ = w.cell? ⟨b, o, none⟩ := by
  refine World.cell?_of_block ?_
  rw [Below.heap_setCell _ _ _ _ h, Below.heap_setCell _ _ _ _ h, Below.heap_setCell _ _ _ _ h, Below.heap_setCell _ _ _ _ h, Below.heap_setCell _ _ _ _ h]

theorem playModal_ends {w : World} {g : Nat} {a b c : Value} {ac : Act} (h : w.heap[g]? = some (.cells #[a, b, c] 43 (0, 0))) (h3 : ac.tmps[8]?.getD undef = .pointer (some ⟨g, 0, none⟩)) :
    (results Tryz.f37 ac.tmps).run Tryz.prog w = .ok (.agg #[a, b, c]) w := by
  obtain ⟨c1, f1, l1⟩ := cells_of (l := [_, _, _]) h
  have c10 := c1 0 _ rfl
  have c11 := c1 1 _ rfl
  have c12 := c1 2 _ rfl
  simp [results, Tryz.results37, go_sem, h3, c10, c11, c12]

theorem store_fn (w : World) (F g : Nat) (cb : Array Value) (hg : w.heap.size = g) : (store ⟨g, 0, none⟩ (.func (Fn.func F) #[] cb)).run Tryz.prog (w.alloc (.cells #[.nilFunc] 117)) = .ok () (w.alloc (.cells #[.func (Fn.func F) #[] cb] 117)) := by
  subst hg
  rw [run_store Tryz.prog _ _ (.func (Fn.func F) #[] cb) .plain rfl]
  simp [go_sem]

theorem six_blocks (w : World) (o0 o1 o2 o3 o4 o5 : Obj) : Below w.heap.size w ((((((w.alloc o0).alloc o1).alloc o2).alloc o3).alloc o4).alloc o5) ∧ ((((((w.alloc o0).alloc o1).alloc o2).alloc o3).alloc o4).alloc o5).heap[w.heap.size]? = some o0 ∧ ((((((w.alloc o0).alloc o1).alloc o2).alloc o3).alloc o4).alloc o5).heap[w.heap.size + 1]? = some o1 ∧ ((((((w.alloc o0).alloc o1).alloc o2).alloc o3).alloc o4).alloc o5).heap[w.heap.size + 2]? = some o2 ∧ ((((((w.alloc o0).alloc o1).alloc o2).alloc o3).alloc o4).alloc o5).heap[w.heap.size + 3]? = some o3 ∧ ((((((w.alloc o0).alloc o1).alloc o2).alloc o3).alloc o4).alloc o5).heap[w.heap.size + 4]? = some o4 ∧ ((((((w.alloc o0).alloc o1).alloc o2).alloc o3).alloc o4).alloc o5).heap[w.heap.size + 5]? = some o5 := by
  have n0 := heap_alloc_new w o0
  have n1 := heap_alloc_new (w.alloc o0) o1
  have n2 := heap_alloc_new ((w.alloc o0).alloc o1) o2
  have n3 := heap_alloc_new (((w.alloc o0).alloc o1).alloc o2) o3
  have n4 := heap_alloc_new ((((w.alloc o0).alloc o1).alloc o2).alloc o3) o4
  have n5 := heap_alloc_new (((((w.alloc o0).alloc o1).alloc o2).alloc o3).alloc o4) o5
  have b1 := below_new (w.alloc o0) o1
  have b2 := below_new ((w.alloc o0).alloc o1) o2
  have b3 := below_new (((w.alloc o0).alloc o1).alloc o2) o3
  have b4 := below_new ((((w.alloc o0).alloc o1).alloc o2).alloc o3) o4
  have b5 := below_new (((((w.alloc o0).alloc o1).alloc o2).alloc o3).alloc o4) o5
  simp only [World.size_alloc] at n1 n2 n3 n4 n5
  refine ⟨below_seq (below_seq (below_seq (below_seq (below_seq (below_new _ _) b1) b2) b3) b4) b5, ?_, ?_, ?_, ?_, ?_, n5⟩
  · rw [b5.block _ (by first | (simp; done) | (simp; omega)), b4.block _ (by first | (simp; done) | (simp; omega)), b3.block _ (by first | (simp; done) | (simp; omega)), b2.block _ (by first | (simp; done) | (simp; omega)), b1.block _ (by simp)]; exact n0
  · rw [b5.block _ (by first | (simp; done) | (simp; omega)), b4.block _ (by first | (simp; done) | (simp; omega)), b3.block _ (by first | (simp; done) | (simp; omega)), b2.block _ (by simp)]; exact n1
  · rw [b5.block _ (by first | (simp; done) | (simp; omega)), b4.block _ (by first | (simp; done) | (simp; omega)), b3.block _ (by simp)]; exact n2
  · rw [b5.block _ (by first | (simp; done) | (simp; omega)), b4.block _ (by simp)]; exact n3
  · rw [b5.block _ (by simp)]; exact n4

set_option maxRecDepth 20000 in
set_option maxHeartbeats 4000000 in
theorem playModal_any (w : World) (set : List Cr) (cs : List Co) (tk : List Int) (n : Nat) (sv qv tkv : Value) (hv : RowSl Cr.vals w set sv) (hq : RowSl Co.vals w cs qv) (ht : RowSl nuV w tk tkv) (hl : cs.length ≤ 4000) (hty : tk.length = cs.length) (hn : n ≤ 20000) (hwh : Whose set cs) (hok : ∀ x ∈ jsF set cs tk, S8.okJ x) :
    Calls Tryz.prog 37 #[sv, qv, tkv, .int .i64 (n : Int)] w (PMPost w set cs tk n) := by
  have HV : Hid (RowSl Cr.vals w set sv ∧ RowSl Co.vals w cs qv ∧ RowSl nuV w tk tkv ∧ Whose set cs ∧ (∀ x ∈ jsF set cs tk, S8.okJ x)) := ⟨hv, hq, ht, hwh, hok⟩
  obtain ⟨ad, ac, rfl⟩ := hv.len
  obtain ⟨bd, bc, rfl⟩ := hq.len
  obtain ⟨td, tc, rfl⟩ := ht.len
  rw [hty] at HV ⊢
  have HL : Hid (tk.length = cs.length) := hty
  clear hv hq ht hwh hok hty
  have hsf := store_fn (((((w.alloc (.cells #[.slice ad set.length ac] 22)).alloc (.cells #[.slice bd cs.length bc] 23)).alloc (.cells #[.slice td cs.length tc] 24)).alloc (.cells #[.slice none 0 0, .slice none 0 0, .int .i64 0] 43)).alloc (.cells #[.slice none 0 0, .slice none 0 0, .int .i64 (-1)] 43)) 67 (w.heap.size + 1 + 1 + 1 + 1 + 1) #[.pointer (some ⟨w.heap.size, 0, none⟩), .pointer (some ⟨w.heap.size + 1, 0, none⟩)] (by simp)
  obtain ⟨W7, hmk, hb7, hr7⟩ := make_jobs ((((((w.alloc (.cells #[.slice ad set.length ac] 22)).alloc (.cells #[.slice bd cs.length bc] 23)).alloc (.cells #[.slice td cs.length tc] 24)).alloc (.cells #[.slice none 0 0, .slice none 0 0, .int .i64 0] 43)).alloc (.cells #[.slice none 0 0, .slice none 0 0, .int .i64 (-1)] 43)).alloc (.cells #[.func (.func 67) #[] #[.pointer (some ⟨w.heap.size, 0, none⟩), .pointer (some ⟨w.heap.size + 1, 0, none⟩)]] 117)) cs.length hl
  have hsz : ((((((w.alloc (.cells #[.slice ad set.length ac] 22)).alloc (.cells #[.slice bd cs.length bc] 23)).alloc (.cells #[.slice td cs.length tc] 24)).alloc (.cells #[.slice none 0 0, .slice none 0 0, .int .i64 0] 43)).alloc (.cells #[.slice none 0 0, .slice none 0 0, .int .i64 (-1)] 43)).alloc (.cells #[.func (.func 67) #[] #[.pointer (some ⟨w.heap.size, 0, none⟩), .pointer (some ⟨w.heap.size + 1, 0, none⟩)]] 117)).heap.size = w.heap.size + 6 := by simp
  rw [hsz] at hr7 hmk
  have H7 : Hid (PM w W7 cs.length (w.heap.size + 6) [] (.slice ad set.length ac) (.slice bd cs.length bc) (.slice td cs.length tc)) := by
    have hb6 := six_blocks w (.cells #[.slice ad set.length ac] 22) (.cells #[.slice bd cs.length bc] 23) (.cells #[.slice td cs.length tc] 24) (.cells #[.slice none 0 0, .slice none 0 0, .int .i64 0] 43) (.cells #[.slice none 0 0, .slice none 0 0, .int .i64 (-1)] 43) (.cells #[.func (.func 67) #[] #[.pointer (some ⟨w.heap.size, 0, none⟩), .pointer (some ⟨w.heap.size + 1, 0, none⟩)]] 117)
    have k : ∀ q, q < w.heap.size + 6 → W7.heap[q]? = ((((((w.alloc (.cells #[.slice ad set.length ac] 22)).alloc (.cells #[.slice bd cs.length bc] 23)).alloc (.cells #[.slice td cs.length tc] 24)).alloc (.cells #[.slice none 0 0, .slice none 0 0, .int .i64 0] 43)).alloc (.cells #[.slice none 0 0, .slice none 0 0, .int .i64 (-1)] 43)).alloc (.cells #[.func (.func 67) #[] #[.pointer (some ⟨w.heap.size, 0, none⟩), .pointer (some ⟨w.heap.size + 1, 0, none⟩)]] 117)).heap[q]? := fun q hq => hb7.block q (by omega)
    exact ⟨below_seq hb6.1 hb7, (k _ (by omega)).trans hb6.2.1, (k _ (by omega)).trans hb6.2.2.1, (k _ (by omega)).trans hb6.2.2.2.1, (k _ (by omega)).trans hb6.2.2.2.2.1, (k _ (by omega)).trans hb6.2.2.2.2.2.1, (k _ (by omega)).trans hb6.2.2.2.2.2.2, hr7, by omega⟩
  clear hb7 hr7 hsz
  go_enter Tryz.func37, Tryz.ntmps37
  go_upto_region 4 with fail
  generalize h5 : w.heap.size + 1 + 1 + 1 + 1 + 1 = G5 at *
  generalize h4 : w.heap.size + 1 + 1 + 1 + 1 = G4 at *
  generalize h3 : w.heap.size + 1 + 1 + 1 = G3 at *
  generalize h2 : w.heap.size + 1 + 1 = G2 at *
  generalize h6 : w.heap.size + 6 = gj at *
  have HG : Hid (G5 = w.heap.size + 5 ∧ G4 = w.heap.size + 4 ∧ G3 = w.heap.size + 3 ∧ G2 = w.heap.size + 2 ∧ gj = w.heap.size + 6) := ⟨by omega, by omega, by omega, by omega, by omega⟩
  clear h2 h3 h4 h5 h6 hsf hmk
  have b1 := (cells_of (l := [_]) H7.out.b1).1 0 _ rfl
  have bl1 := World.block_lt_of_cell? _ _ b1
  go_wp2_with fail
  go_loopw [23] (fun i wr => ∃ j : Nat, j ≤ cs.length ∧ i = .int .i64 j ∧ PM w wr cs.length gj (jsF set (cs.take j) tk) (.slice ad set.length ac) (.slice bd cs.length bc) (.slice td cs.length tc)) (fun i _ => cs.length - (intOf i).toNat)
  case atStart => exact ⟨0, Nat.zero_le _, rfl, H7.out⟩
  case round =>
    obtain ⟨j, hj, rfl, hpm⟩ := hrel
    by_cases hjl : j < cs.length
    · obtain ⟨x, hx, -⟩ := drop_at hjl
      obtain ⟨y, hy⟩ : ∃ y, tk[j]? = some y := ⟨_, List.getElem?_eq_getElem (by rw [HL.out]; exact hjl)⟩
      have hq1 := HV.out.2.1
      obtain ⟨bd', bc', e, -, -, hrc⟩ := hq1
      cases e
      rcases hrc with h | ⟨bb, bo, rfl, hr1⟩
      · rw [h] at hjl; simp at hjl
      have ht1 := HV.out.2.2.1
      obtain ⟨td', tc', e, -, -, hrt⟩ := ht1
      rw [HL.out] at e
      cases e
      rcases hrt with h | ⟨tb, to', rfl, hr2⟩
      · rw [h] at hy; simp at hy
      obtain ⟨c0, c1⟩ := co_at (fun q u hq => below_cell hpm.bel (hr1 q u hq)) hx
      have cty0 := below_cell hpm.bel (nu_at hr2 hy)
      obtain ⟨yk, ya⟩ := x
      dsimp only at c0 c1
      have hbn := below_new wr (.cells #[.int .i64 yk, .int .i64 ya] 38)
      have HP : Hid (PM w (wr.alloc (.cells #[.int .i64 yk, .int .i64 ya] 38)) cs.length gj (jsF set (cs.take j) tk) (.slice ad set.length ac) (.slice (some ⟨bb, bo, none⟩) cs.length bc) (.slice (some ⟨tb, to', none⟩) cs.length tc)) := hpm.grow hbn
      have HX : Hid (cs.getD j ⟨0, 0⟩ = ⟨yk, ya⟩ ∧ tk.getD j 0 = y) := ⟨by rw [List.getD_eq_getElem?_getD, hx]; rfl, by rw [List.getD_eq_getElem?_getD, hy]; rfl⟩
      have hji : (j : Int) < (cs.length : Int) := by omega
      obtain ⟨cs0, cf0, cl0⟩ := cells_of (l := [_, _]) (heap_alloc_new wr (.cells #[.int .i64 yk, .int .i64 ya] 38))
      have cg1 := cs0 1 _ rfl
      have cty := below_cell hbn cty0
      have tb0 := (cells_of (l := [_]) HP.out.b2).1 0 _ rfl
      have of0 := (cells_of (l := [_]) HP.out.b5).1 0 _ rfl
      rw [← HG.out.2.2.2.1] at tb0
      rw [← HG.out.1] at of0
      have ncg : ¬ wr.heap.size = gj := by have := lt_heapM hpm.row; omega
      have nG2 : ¬ G2 = gj := by have := HG.out; omega
      have nG5 : ¬ G5 = gj := by have := HG.out; omega
      have ntb : ¬ tb = gj := by have := World.block_lt_of_cell? _ _ (nu_at hr2 hy); have := HG.out; dsimp only at *; omega
      clear hr1 hr2 hx hy cty0 hpm cs0 cf0
      go_upto_region 7 with fail
      clear c0 c1 hbn
      generalize (wr.alloc (.cells #[.int .i64 yk, .int .i64 ya] 38)) = W2 at *
      generalize wr.heap.size = cg at *
      have HO := (HP.out.of HV.out.1 HV.out.2.1).below (W' := W2.drew) (Below.refl _ _).drew
      have HC := HO.call HV.out.2.2.2.1 hjl
      generalize hxx : crOf set cs j = xx at *
      have HXX : Hid (crOf set cs j = xx) := hxx
      clear hxx HO
      obtain ⟨xc, xh, xt, xd, xi, xp⟩ := xx
      unfold Cr.val at HC
      dsimp only at HC
      have hfd : ∀ W : World, (Instr.field 35 (.agg #[.int .i64 xc, .int .i64 xh, .int .i64 xt, .int .i64 xd, .bool xi, .int .i64 xp]) 5).run Tryz.prog W = .ok (.int .i64 xp) W := fun _ => by kernel_rfl
      refine wp_region_noPanic ?_
      refine wp_region_held_drew (S := fun w' => w'.cell? ⟨cg, 1, none⟩ = some (.int .i64 ya) ∧ w'.cell? ⟨G2, 0, none⟩ = some (.slice (some ⟨tb, to', none⟩) cs.length tc) ∧ w'.cell? ⟨tb, to' + j, none⟩ = some (.int .i64 y) ∧ w'.cell? ⟨G5, 0, none⟩ = some (.func (.func 67) #[] #[.pointer (some ⟨w.heap.size, 0, none⟩), .pointer (some ⟨w.heap.size + 1, 0, none⟩)])) (by kernel_rfl) ⟨cg1, tb0, cty, of0⟩ (fun hHeld => ?_)
      refine take_at (i := 0) (n := 28) (v := ?_) rfl rfl (by kernel_rfl) (by kernel_rfl) (by kernel_rfl) (fun _ _ _ h => h) (Or.inl ⟨by rfl, ?_⟩) (by assumption) ?_
      rotate_left 1
      · intro wz hSw
        obtain ⟨s0, s1, s2, s3⟩ := hSw
        first | (go_simp; done) | (go_simp; with_reducible rfl)
      simp only [List.set_cons_zero, List.set_cons_succ]
      refine take_at (i := 1) (n := 29) (v := ?_) rfl rfl (by kernel_rfl) (by kernel_rfl) (by kernel_rfl) (fun _ _ _ h => h) (Or.inl ⟨by rfl, ?_⟩) (by assumption) ?_
      rotate_left 1
      · intro wz hSw
        obtain ⟨s0, s1, s2, s3⟩ := hSw
        first | (go_simp; done) | (go_simp; with_reducible rfl)
      simp only [List.set_cons_zero, List.set_cons_succ]
      refine take_at (i := 2) (n := 30) (v := ?_) rfl rfl (by kernel_rfl) (by kernel_rfl) (by kernel_rfl) (fun _ _ _ h => h) (Or.inl ⟨by rfl, ?_⟩) (by assumption) ?_
      rotate_left 1
      · intro wz hSw
        obtain ⟨s0, s1, s2, s3⟩ := hSw
        first | (go_simp; done) | (go_simp; with_reducible rfl)
      simp only [List.set_cons_zero, List.set_cons_succ]
      refine take_at (i := 3) (n := 31) (v := ?_) rfl rfl (by kernel_rfl) (by kernel_rfl) (by kernel_rfl) (fun _ _ _ h => h) (Or.inl ⟨by rfl, ?_⟩) (by assumption) ?_
      rotate_left 1
      · intro wz hSw
        obtain ⟨s0, s1, s2, s3⟩ := hSw
        first | (go_simp; done) | (go_simp; with_reducible rfl)
      simp only [List.set_cons_zero, List.set_cons_succ]
      refine take_at (i := 4) (n := 32) (v := ?_) rfl rfl (by kernel_rfl) (by kernel_rfl) (by kernel_rfl) (fun _ _ _ h => h) (Or.inl ⟨by rfl, ?_⟩) (by assumption) ?_
      rotate_left 1
      · intro wz hSw
        obtain ⟨s0, s1, s2, s3⟩ := hSw
        first | (go_simp; done) | (go_simp; with_reducible rfl)
      simp only [List.set_cons_zero, List.set_cons_succ]
      refine take_at (i := 5) (n := 33) (v := ?_) rfl rfl (by kernel_rfl) (by kernel_rfl) (by kernel_rfl) (fun _ _ _ h => h) (Or.inl ⟨by rfl, ?_⟩) (by assumption) ?_
      rotate_left 1
      · intro wz hSw
        obtain ⟨s0, s1, s2, s3⟩ := hSw
        first | (go_simp; done) | (go_simp; with_reducible rfl)
      simp only [List.set_cons_zero, List.set_cons_succ]
      refine take_at (i := 6) (n := 34) (v := ?_) rfl rfl (by kernel_rfl) (by kernel_rfl) (by kernel_rfl) (fun _ _ _ h => h) (Or.inl ⟨by rfl, ?_⟩) (by assumption) ?_
      rotate_left 1
      · intro wz hSw
        obtain ⟨s0, s1, s2, s3⟩ := hSw
        first | (go_simp; done) | (go_simp; with_reducible rfl)
      simp only [List.set_cons_zero, List.set_cons_succ]
      refine take_at (i := 7) (n := 35) (v := ?_) rfl rfl (by kernel_rfl) (by kernel_rfl) (by kernel_rfl) (fun _ _ _ h => h) (Or.inl ⟨by rfl, ?_⟩) (by assumption) ?_
      rotate_left 1
      · intro wz hSw
        obtain ⟨s0, s1, s2, s3⟩ := hSw
        first | (go_simp; done) | (go_simp; with_reducible rfl)
      simp only [List.set_cons_zero, List.set_cons_succ]
      refine take_at (i := 8) (n := 36) (v := ?_) rfl rfl (by kernel_rfl) (by kernel_rfl) (by kernel_rfl) (fun _ _ _ h => h) (Or.inl ⟨by rfl, ?_⟩) (by assumption) ?_
      rotate_left 1
      · intro wz hSw
        obtain ⟨s0, s1, s2, s3⟩ := hSw
        first | (go_simp; done) | (go_simp; with_reducible rfl)
      simp only [List.set_cons_zero, List.set_cons_succ]
      refine take_at (i := 9) (n := 37) (v := ?_) rfl rfl (by kernel_rfl) (by kernel_rfl) (by kernel_rfl) (fun _ _ _ h => h) (Or.inl ⟨by rfl, ?_⟩) (by assumption) ?_
      rotate_left 1
      · intro wz hSw
        obtain ⟨s0, s1, s2, s3⟩ := hSw
        first | (go_simp; done) | (go_simp; with_reducible rfl)
      simp only [List.set_cons_zero, List.set_cons_succ]
      refine wpAnyH_ready (rs := [10]) (by kernel_rfl) (by simp) ?_
      refine AllReadyH.cons rfl (fun K hK => ?_) AllReadyH.nil
      go_simp
      go_wp2_with (go_at_call 67; refine HC.mono ?_; rintro r W3 ⟨rfl, hb0⟩; have hb3 := below_seq (Below.refl _ W2).drew hb0; have H3 : Hid (PM w W3 cs.length gj (jsF set (cs.take j) tk) (.slice ad set.length ac) (.slice (some ⟨bb, bo, none⟩) cs.length bc) (.slice (some ⟨tb, to', none⟩) cs.length tc)) := HP.out.grow hb3; clear hb0 HC)
      have v0 := below_cell hb3 cg1
      have v1 := below_cell hb3 tb0
      have v2 := below_cell hb3 cty
      have v3 := below_cell hb3 of0
      have hjsl : (jsF set (cs.take j) tk).length = j := by rw [jsF_len, List.length_take]; omega
      have hcl : (jbCells cs.length (jsF set (cs.take j) tk)).length = cs.length * 5 := jbCells_len (by omega)
      obtain ⟨rc, rf, rl⟩ := cells_of (l := jbCells cs.length (jsF set (cs.take j) tk)) H3.out.row
      obtain ⟨e0, r0⟩ : ∃ e0, W3.cell? ⟨gj, j * 5, none⟩ = some e0 := ⟨_, rc (j * 5) _ (List.getElem?_eq_getElem (by omega))⟩
      obtain ⟨e1, r1⟩ : ∃ e1, W3.cell? ⟨gj, j * 5 + 1, none⟩ = some e1 := ⟨_, rc (j * 5 + 1) _ (List.getElem?_eq_getElem (by omega))⟩
      obtain ⟨e2, r2⟩ : ∃ e2, W3.cell? ⟨gj, j * 5 + 2, none⟩ = some e2 := ⟨_, rc (j * 5 + 2) _ (List.getElem?_eq_getElem (by omega))⟩
      obtain ⟨e3, r3⟩ : ∃ e3, W3.cell? ⟨gj, j * 5 + 3, none⟩ = some e3 := ⟨_, rc (j * 5 + 3) _ (List.getElem?_eq_getElem (by omega))⟩
      obtain ⟨e4, r4⟩ : ∃ e4, W3.cell? ⟨gj, j * 5 + 4, none⟩ = some e4 := ⟨_, rc (j * 5 + 4) _ (List.getElem?_eq_getElem (by omega))⟩
      have f0 := rf (j * 5)
      have f1 := rf (j * 5 + 1)
      have f2 := rf (j * 5 + 2)
      have f3 := rf (j * 5 + 3)
      have f4 := rf (j * 5 + 4)
      have hput := H3.out.put (by rw [hjsl]; exact hjl) ⟨0, ya, y, 0, xp⟩
      rw [hjsl] at hput
      have H4 : Hid (PM w (((((W3.setCell ⟨gj, j * 5, none⟩ (.int .i64 0)).setCell ⟨gj, j * 5 + 1, none⟩ (.int .i64 ya)).setCell ⟨gj, j * 5 + 2, none⟩ (.int .i64 y)).setCell ⟨gj, j * 5 + 3, none⟩ (.int .i64 0)).setCell ⟨gj, j * 5 + 4, none⟩ (.int .i64 xp)) cs.length gj (jsF set (cs.take (j + 1)) tk) (.slice ad set.length ac) (.slice (some ⟨bb, bo, none⟩) cs.length bc) (.slice (some ⟨tb, to', none⟩) cs.length tc)) := by
        rw [jsF_snoc hjl, HX.out.1, HX.out.2, HXX.out]
        exact hput
      clear hjsl hcl rc rf hput hb3
      refine hK.out _ _ ⟨v0, v1, v2, v3⟩ (fun hHeld => ?_)
      clear hK K
      try simp only [List.set_cons_zero, List.set_cons_succ]
      refine take_at (i := 11) (n := 39) (v := ?_) rfl rfl (by kernel_rfl) (by kernel_rfl) (by kernel_rfl) (fun _ _ _ h => h) (Or.inl ⟨by rfl, ?_⟩) (by assumption) ?_
      rotate_left 1
      · intro wz hSw
        obtain ⟨s0, s1, s2, s3⟩ := hSw
        first | (go_simp; done) | (go_simp; with_reducible rfl)
      simp only [List.set_cons_zero, List.set_cons_succ]
      refine take_at (i := 12) (n := 40) (v := ?_) rfl rfl (by kernel_rfl) (by kernel_rfl) (by kernel_rfl) (fun _ _ _ h => h) (Or.inl ⟨by rfl, ?_⟩) (by assumption) ?_
      rotate_left 1
      · intro wz hSw
        obtain ⟨s0, s1, s2, s3⟩ := hSw
        first | (go_simp; done) | (go_simp; with_reducible rfl)
      simp only [List.set_cons_zero, List.set_cons_succ]
      refine take_at (i := 13) (n := 41) (v := ?_) rfl rfl (by kernel_rfl) (by kernel_rfl) (by kernel_rfl) (fun _ _ _ h => h) (Or.inl ⟨by rfl, ?_⟩) (by assumption) ?_
      rotate_left 1
      · intro wz hSw
        obtain ⟨s0, s1, s2, s3⟩ := hSw
        first | (go_simp; done) | (go_simp; with_reducible rfl)
      simp only [List.set_cons_zero, List.set_cons_succ]
      refine wpAnyH_ready (rs := [14]) (by kernel_rfl) (by simp) ?_
      refine AllReadyH.cons rfl (fun K hK => ?_) AllReadyH.nil
      go_simp
      refine hK.out _ _ ⟨(cell_fived ncg).trans v0, (cell_fived nG2).trans v1, (cell_fived ntb).trans v2, (cell_fived nG5).trans v3⟩ (fun hHeld => ?_)
      clear hK K
      try simp only [List.set_cons_zero, List.set_cons_succ]
      refine wpAnyH_done (by kernel_rfl) ?_ _
      refine NoPanic.normal ?_
      clear hHeld
      clear HP hfd cg1 tb0 cty of0 H3
      go_wp2_with fail
      exact ⟨⟨j + 1, by omega, by simp, H4.out⟩, by simp [intOf]; omega⟩
    · have hje : j = cs.length := by omega
      subst hje
      rw [List.take_length] at hpm
      obtain ⟨jl, hjq⟩ : ∃ jl, jsF set cs tk = jl := ⟨_, rfl⟩
      have hlen : jl.length = cs.length := by rw [← hjq]; exact jsF_len set cs tk
      have HJ : Hid (jsF set cs tk = jl ∧ jl.length = cs.length) := ⟨hjq, hlen⟩
      rw [hjq] at hpm
      have hokj : ∀ x ∈ jl, S8.okJ x := by rw [← hjq]; exact HV.out.2.2.2.2
      have hrow : RowSl Jb.vals wr jl (.slice (some ⟨gj, 0, none⟩) cs.length cs.length) := by
        have := PM.jobs (js := jl) (by rw [hlen]; exact hpm)
        rw [hlen] at this
        exact this
      have HP : Hid (PM w wr cs.length gj jl (.slice ad set.length ac) (.slice bd cs.length bc) (.slice td cs.length tc) ∧ (∀ x ∈ jl, S8.okJ x) ∧ RowSl Jb.vals wr jl (.slice (some ⟨gj, 0, none⟩) cs.length cs.length)) := ⟨hpm, hokj, hrow⟩
      have HB := S8.By_any wr 1
      have HN := S8.New_anyG wr jl _ 1 (.inl rfl) hrow (by omega)
      rw [if_neg (by decide)] at HB HN
      clear hpm hokj hrow hjq hlen
      go_upto_region 10 with (first | (go_at_call 57; refine HB.mono ?_; rintro r w5 ⟨rfl, hw5⟩; have hw6 := hw5.symm; subst hw6; clear hw5 HB) | (go_at_call 56; refine HN.mono ?_; rintro r w8 ⟨B, Kb, Lf, Rn, Rd, C, rk, cm, cv, rfl, hline, hrk, hcm, hdd⟩; have H8 : Hid (S8.LineW wr B Kb Lf Rn Rd C w8 jl rk cm 0 [] (jl.map (·.c)) (.slice (some ⟨gj, 0, none⟩) cs.length cs.length) (.slice none 0 0) cv ∧ S8.Ranked jl 1 rk ∧ S8.Coming jl rk cm ∧ (wr.heap.size ≤ C ∧ wr.heap.size ≤ Rn ∧ wr.heap.size ≤ Rd ∧ Rn ≠ C ∧ Rd ≠ C)) := ⟨hline, hrk, hcm, hdd⟩; clear hline hrk hcm hdd HN))
      obtain ⟨W10, hmk, hb10, hr10⟩ := S8.make_ints (w8.alloc (.cells #[.pointer (some ⟨Kb, 0, none⟩)] 98)) cs.length (by omega)
      have hs9 : (w8.alloc (.cells #[.pointer (some ⟨Kb, 0, none⟩)] 98)).heap.size = w8.heap.size + 1 := by simp
      rw [hs9] at hmk hr10 hb10
      have hlb9 : W10.heap[w8.heap.size]? = some (.cells #[.pointer (some ⟨Kb, 0, none⟩)] 98 (0, 0)) := (hb10.block _ (by omega)).trans (heap_alloc_new _ _)
      have hb8 : Below w8.heap.size w8 W10 := (below_new _ _).trans (hb10.mono (by omega))
      have hsz10 : w8.heap.size + 1 < W10.heap.size := lt_heapM hr10
      have lb0 := (cells_of (l := [_]) hlb9).1 0 _ rfl
      have hbn := below_new W10 (.cells #[.slice (some ⟨w8.heap.size + 1, 0, none⟩) cs.length cs.length] 24)
      have HE : Hid ((W10.alloc (.cells #[.slice (some ⟨w8.heap.size + 1, 0, none⟩) cs.length cs.length] 24)).heap[w8.heap.size]? = some (.cells #[.pointer (some ⟨Kb, 0, none⟩)] 98 (0, 0)) ∧ (W10.alloc (.cells #[.slice (some ⟨w8.heap.size + 1, 0, none⟩) cs.length cs.length] 24)).heap[W10.heap.size]? = some (.cells #[.slice (some ⟨w8.heap.size + 1, 0, none⟩) cs.length cs.length] 24 (0, 0)) ∧ (W10.alloc (.cells #[.slice (some ⟨w8.heap.size + 1, 0, none⟩) cs.length cs.length] 24)).heap[w8.heap.size + 1]? = some (.cells ((List.replicate cs.length 0).map (Value.int .i64)).toArray 3 (0, 0)) ∧ Below w8.heap.size w8 (W10.alloc (.cells #[.slice (some ⟨w8.heap.size + 1, 0, none⟩) cs.length cs.length] 24))) := by
        refine ⟨(hbn.block _ (by omega)).trans hlb9, heap_alloc_new _ _, ?_, below_seq hb8 hbn⟩
        rw [hbn.block _ hsz10, hr10]
        simp [S8.runCells]
      have lb1 := below_cell hbn lb0
      clear hr10 hlb9 hb8 lb0
      go_upto_region 11 with fail
      clear hmk hb10 hs9 hbn
      generalize (W10.alloc (.cells #[.slice (some ⟨w8.heap.size + 1, 0, none⟩) cs.length cs.length] 24)) = X at *
      have HLG := LineG.grow (H8.out.1.toG (by rw [H8.out.2.2.1.len])) HE.out.2.2.2
      have HPl := playG_any wr X B Kb Lf Rn Rd C jl rk cm (.slice (some ⟨gj, 0, none⟩) cs.length cs.length) cv n G4 w8.heap.size W10.heap.size (w8.heap.size + 1) set cs tk (.slice ad set.length ac) (.slice bd cs.length bc) (.slice td cs.length tc) w.heap.size (w.heap.size + 1) G5 G2 HLG H8.out.2.2.2 H8.out.2.1 H8.out.2.2.1 (by rw [HJ.out.2]; exact hl) HP.out.2.1 hn (by rw [HG.out.2.1]; exact HP.out.1.b4) HE.out.1 (by rw [HJ.out.2]; exact HE.out.2.1) (by rw [HJ.out.2]; exact HE.out.2.2.1) (by have := H8.out.1.bs; exact ⟨by omega, by omega, by omega⟩) (by exact ⟨by omega, by omega, by omega⟩) HV.out.2.2.2.1 HJ.out.2.symm (fun w1 T hB => by
        have hgg := HG.out
        have hbw := hB.below HP.out.1.bel (by omega)
        refine ⟨⟨hB.cell (by show w.heap.size ≠ G4; omega) ((cells_of (l := [_]) HP.out.1.b0).1 0 _ rfl), hB.cell (by show w.heap.size + 1 ≠ G4; omega) ((cells_of (l := [_]) HP.out.1.b1).1 0 _ rfl), hB.cell (by show G5 ≠ G4; omega) (by rw [hgg.1]; exact (cells_of (l := [_]) HP.out.1.b5).1 0 _ rfl), HV.out.1.below hbw, HV.out.2.1.below hbw⟩, hB.cell (by show G2 ≠ G4; omega) (by rw [hgg.2.2.2.1]; exact (cells_of (l := [_]) HP.out.1.b2).1 0 _ rfl), HV.out.2.2.1.below hbw, hB.row HP.out.2.2 (by omega)⟩) (by rw [HL.out, HJ.out.2]) (fun j hj => by
        rw [HJ.out.2] at hj
        rw [← HJ.out.1, jsF_at hj]
        show tk[j]? = some (tk.getD j 0)
        rw [List.getD_eq_getElem?_getD, List.getElem?_eq_getElem (by rw [HL.out]; exact hj)]
        rfl)
      rw [HJ.out.2] at HPl
      clear HLG
      go_upto_region 12 with (go_at_call 58; refine HPl.mono ?_; rintro r Y ⟨s, TT, w1, rb, eb, hpl, rfl, hrb, heb, hne, hlr, hle, hbase, hbel⟩; have H9 : Hid (PlaysT jl (hiOf set cs) (fun j => (crOf set cs j).c) n s TT ∧ Y.heap[rb]? = some (.cells (s.runs.map (Value.int .i64)).toArray 3 (0, 0)) ∧ Y.heap[eb]? = some (.cells (s.ends.map (Value.int .i64)).toArray 3 (0, 0)) ∧ rb ≠ eb ∧ wr.heap.size ≤ rb ∧ wr.heap.size ≤ eb ∧ Base wr w1 G4 TT ∧ Below w1.heap.size w1 Y) := ⟨hpl, hrb, heb, hne, hlr, hle, hbase, hbel⟩; have hm4 := (hbel.block G4 (lt_heapM hbase.m)).trans hbase.m; obtain ⟨mc, mf, ml⟩ := cells_of (l := [_, _, _]) hm4; have m0 := mc 0 _ rfl; have m1 := mc 1 _ rfl; have m2 := mc 2 _ rfl; have mf0 := mf 0; have mf1 := mf 1; clear mc mf hm4 hpl hrb heb hne hlr hle hbase hbel HPl)
      have hgg := HG.out
      have hG3 : Y.heap[G3]? = some (.cells #[.slice none 0 0, .slice none 0 0, .int .i64 0] 43 (0, 0)) := by
        have h3 := HP.out.1.b3
        rw [← hgg.2.2.1] at h3
        have h3' := (H9.out.2.2.2.2.2.2.1.rest G3 (by omega)).trans h3
        exact (H9.out.2.2.2.2.2.2.2.block G3 (lt_heapM h3')).trans h3'
      have hn34 : G3 ≠ G4 := by omega
      have hz3 : ((Y.setCell ⟨G4, 0, none⟩ (.slice (some ⟨rb, 0, none⟩) n n)).setCell ⟨G4, 1, none⟩ (.slice (some ⟨eb, 0, none⟩) jl.length jl.length)).heap[G3]? = some (.cells #[.slice none 0 0, .slice none 0 0, .int .i64 0] 43 (0, 0)) := by
        rw [Below.heap_setCell _ _ _ _ hn34, Below.heap_setCell _ _ _ _ hn34]; exact hG3
      have hz4 : ((Y.setCell ⟨G4, 0, none⟩ (.slice (some ⟨rb, 0, none⟩) n n)).setCell ⟨G4, 1, none⟩ (.slice (some ⟨eb, 0, none⟩) jl.length jl.length)).heap[G4]? = some (.cells #[.slice (some ⟨rb, 0, none⟩) n n, .slice (some ⟨eb, 0, none⟩) jl.length jl.length, .int .i64 TT] 43 (0, 0)) := by
        have hm4 := (H9.out.2.2.2.2.2.2.2.block G4 (lt_heapM H9.out.2.2.2.2.2.2.1.m)).trans H9.out.2.2.2.2.2.2.1.m
        rw [setCell_at (setCell_at hm4)]; rfl
      have hlo : w.heap.size ≤ wr.heap.size := HP.out.1.bel.size
      have hwlt : G4 < wr.heap.size := by have := lt_heapM HP.out.1.b4; omega
      have HZ : Hid (Below w.heap.size w ((Y.setCell ⟨G4, 0, none⟩ (.slice (some ⟨rb, 0, none⟩) n n)).setCell ⟨G4, 1, none⟩ (.slice (some ⟨eb, 0, none⟩) jl.length jl.length)) ∧ ((Y.setCell ⟨G4, 0, none⟩ (.slice (some ⟨rb, 0, none⟩) n n)).setCell ⟨G4, 1, none⟩ (.slice (some ⟨eb, 0, none⟩) jl.length jl.length)).heap[rb]? = some (.cells (s.runs.map (Value.int .i64)).toArray 3 (0, 0)) ∧ ((Y.setCell ⟨G4, 0, none⟩ (.slice (some ⟨rb, 0, none⟩) n n)).setCell ⟨G4, 1, none⟩ (.slice (some ⟨eb, 0, none⟩) jl.length jl.length)).heap[eb]? = some (.cells (s.ends.map (Value.int .i64)).toArray 3 (0, 0)) ∧ ((Y.setCell ⟨G4, 0, none⟩ (.slice (some ⟨rb, 0, none⟩) n n)).setCell ⟨G4, 1, none⟩ (.slice (some ⟨eb, 0, none⟩) jl.length jl.length)).heap[G3]? = some (.cells #[.slice none 0 0, .slice none 0 0, .int .i64 0] 43 (0, 0)) ∧ wr.heap.size ≤ rb ∧ wr.heap.size ≤ eb ∧ G3 < wr.heap.size) := by
        have hb := (H9.out.2.2.2.2.2.2.1.below HP.out.1.bel (by omega))
        have hbw : Below w.heap.size w Y := ⟨H9.out.2.2.2.2.2.2.2.os.trans hb.os, H9.out.2.2.2.2.2.2.2.tape.trans hb.tape, H9.out.2.2.2.2.2.2.2.output.trans hb.output, Nat.le_trans hb.size H9.out.2.2.2.2.2.2.2.size, fun i hi => (H9.out.2.2.2.2.2.2.2.block i (by have := hb.size; omega)).trans (hb.block i hi)⟩
        refine ⟨(hbw.setCell (by show w.heap.size ≤ G4; omega) _).setCell (by show w.heap.size ≤ G4; omega) _, ?_, ?_, hz3, H9.out.2.2.2.2.1, H9.out.2.2.2.2.2.1, by omega⟩
        · have h5 := H9.out.2.2.2.2.1
          rw [Below.heap_setCell _ _ _ _ (by show rb ≠ G4; omega), Below.heap_setCell _ _ _ _ (by show rb ≠ G4; omega)]
          exact H9.out.2.1
        · have h5 := H9.out.2.2.2.2.2.1
          rw [Below.heap_setCell _ _ _ _ (by show eb ≠ G4; omega), Below.heap_setCell _ _ _ _ (by show eb ≠ G4; omega)]
          exact H9.out.2.2.1
      have HF : Hid (PlaysT jl (hiOf set cs) (fun j => (crOf set cs j).c) n s TT ∧ rb ≠ eb) := ⟨H9.out.1, H9.out.2.2.2.1⟩
      obtain ⟨mc, mf, ml'⟩ := cells_of (l := [_, _, _]) hz4
      have m0' := mc 0 _ rfl
      have m1' := mc 1 _ rfl
      have m2' := mc 2 _ rfl
      obtain ⟨nc, nf, nl⟩ := cells_of (l := [_, _, _]) hz3
      have n0 := nc 0 _ rfl
      have n1 := nc 1 _ rfl
      have n2 := nc 2 _ rfl
      have nf0 := nf 0
      have nf1 := nf 1
      have nf2 := nf 2
      clear mc mf nc nf hz3 hz4 hG3 H9 m0 m1 m2 mf0 mf1 hgg
      generalize ((Y.setCell ⟨G4, 0, none⟩ (.slice (some ⟨rb, 0, none⟩) n n)).setCell ⟨G4, 1, none⟩ (.slice (some ⟨eb, 0, none⟩) jl.length jl.length)) = Z at *
      go_wp2_with fail
      refine bodyPost_ret (playModal_ends (g := G3) (a := .slice (some ⟨rb, 0, none⟩) n n) (b := .slice (some ⟨eb, 0, none⟩) jl.length jl.length) (c := .int .i64 TT) (by rw [setCell_at (setCell_at (setCell_at HZ.out.2.2.2.1))]; rfl) rfl) rfl ?_
      have h1 := HZ.out.2.2.2.2
      have hg3 : w.heap.size ≤ G3 := by have := HG.out; omega
      refine ⟨s, TT, rb, eb, by rw [HJ.out.1]; exact HF.out.1, by rw [HJ.out.2], ?_, ?_, HF.out.2, by omega, by omega, ((HZ.out.1.setCell (by show w.heap.size ≤ G3; omega) _).setCell (by show w.heap.size ≤ G3; omega) _).setCell (by show w.heap.size ≤ G3; omega) _⟩
      · rw [Below.heap_setCell _ _ _ _ (by show rb ≠ G3; omega), Below.heap_setCell _ _ _ _ (by show rb ≠ G3; omega), Below.heap_setCell _ _ _ _ (by show rb ≠ G3; omega)]
        exact HZ.out.2.1
      · rw [Below.heap_setCell _ _ _ _ (by show eb ≠ G3; omega), Below.heap_setCell _ _ _ _ (by show eb ≠ G3; omega), Below.heap_setCell _ _ _ _ (by show eb ≠ G3; omega)]
        exact HZ.out.2.2.1
end Go.Proofs.YtccoobcggbbciaiGreatDoor
