import Derived.Test.YtccoobcggbbciakDoorKV0
namespace Go.Proofs.YtccoobcggbbciakDoor
open Go.ChangeShapes Go.WideShapes Go.ChangeAt Go.RowKit

theorem F_ends {w : World} {g : Nat} {c k : Value} {a : Act} (h : w.heap[g]? = some (.cells #[c, k] 27 (0, 0))) (h3 : a.tmps[4]?.getD undef = .pointer (some ⟨g, 0, none⟩)) :
    (results Tryd.f27 a.tmps).run Tryd.prog w = .ok (.agg #[c, k]) w := by
  obtain ⟨c1, f1, l1⟩ := cells_of (l := [_, _]) h
  have c10 := c1 0 _ rfl
  have c11 := c1 1 _ rfl
  simp [results, Tryd.results27, go_sem, h3, c10, c11]

set_option maxRecDepth 20000 in
theorem F_any (w : World) (a b : Int) : Calls Tryd.prog 27 #[.int .i64 a, .int .i64 b] w fun r w' => r = .returned (.agg #[.int .i64 a, .int .i64 b]) ∧ Below w.heap.size w w' := by
  go_enter Tryd.func27, Tryd.ntmps27
  go_wp2_with fail
  refine bodyPost_ret (F_ends (heap_alloc_new _ _) rfl) rfl ?_
  exact ⟨rfl, below_new _ _⟩


theorem ownsRow_keep2 {w w' : World} {B n size : Nat} {e : TypeId} {v : Value} {xs : List Value} (h : w.ownsRow B e size v n xs) (hs : ∀ k, v.ownBlock = some k → w'.heap[k]? = w.heap[k]?) : w'.ownsRow B e size v n xs := by
  obtain ⟨hl, h | ⟨g, cap, cur, he, hb, hg, hr⟩⟩ := h
  · exact ⟨hl, .inl h⟩
  · exact ⟨hl, .inr ⟨g, cap, cur, he, hb, (hs g (by rw [he]; rfl)).trans hg, hr⟩⟩

theorem row_full {w : World} {B A n : Nat} {xs : List Value} (h : w.ownsRow B 9 1 (.slice (some ⟨A, 0, none⟩) n n) n xs) : w.heap[A]? = some (.cells xs.toArray 9 (0, 0)) := by
  obtain ⟨hl, ⟨h1, -⟩ | ⟨g, cap, cur, he, -, hg, -, -, hs, ht⟩⟩ := h
  · cases h1
  · cases he
    rw [List.take_of_length_le (by simp; omega)] at ht
    rw [hg, ← ht]

theorem Fields_any (w : World) (s : ByteArray) (hs : s.size ≤ 300000) (hG : Gr w) : Calls Tryd.prog 25 #[.string s] w fun r w' => ∃ (A : Nat) (ws : List ByteArray), r = .returned (.slice (some ⟨A, 0, none⟩) ws.length ws.length) ∧ Hid (w.heap.size ≤ A ∧ w'.heap[A]? = some (.cells (ws.map Value.string).toArray 9 (0, 0)) ∧ Below w.heap.size w w' ∧ ws.map (·.data.toList) = Lib.fieldsD s.data.toList) := by
  refine Calls.mono (sh_strings_Fields_any s w (by omega) hG.sp hG.wt) ?_
  rintro r w' ⟨A, rfl, hA, hrow, hb⟩
  refine ⟨A, (Lib.fieldsD s.data.toList).map (fun x => ⟨x.toArray⟩), by rw [List.length_map], ⟨hA, ?_, hb, ?_⟩⟩
  · have := row_full hrow
    rw [this, List.map_map]
    rfl
  · rw [List.map_map]
    conv => rhs; rw [← List.map_id (Lib.fieldsD s.data.toList)]
    apply List.map_congr_left
    intro x _
    simp

/-- What ReadLog holds. -/
structure RSW (w W : World) (g4 : Nat) (LL : List ByteArray) (acc : List Ev) (sv : Value) : Prop where
  tw : TO w W w.heap.size acc sv
  ll : W.heap[g4]? = some (.cells (LL.map Value.string).toArray 9 (0, 0))

theorem RSW.grow {w W W' : World} {g4 : Nat} {LL : List ByteArray} {acc : List Ev} {sv : Value} (h : RSW w W g4 LL acc sv) (hb : Below W.heap.size W W') : RSW w W' g4 LL acc sv :=
  ⟨h.tw.grow hb, (hb.block _ (Array.getElem?_eq_some_iff.1 h.ll).1).trans h.ll⟩

/-- What ReadLog holds while it reads a line. -/
structure IW (w W : World) (g4 : Nat) (LL : List ByteArray) (acc : List Ev) (sv : Value) (gA : Nat) (ws : List ByteArray) (gE : Nat) (e : Ev) (nv : Value) (ns : List Int) : Prop where
  rs : RSW w W g4 LL acc sv
  wd : W.heap[gA]? = some (.cells (ws.map Value.string).toArray 9 (0, 0))
  ev : W.heap[gE]? = some (.cells #[.int .i64 e.at_, .int .i64 e.k, .int .i64 e.t, .int .i64 e.m, .int .i64 e.n] 24 (0, 0))
  ns : W.ownsRow (gE + 1) 3 1 nv ns.length (ns.map (Value.int .i64))
  d1 : g4 < gE ∧ gA < gE ∧ w.heap.size < gE
  d2 : ∀ q, sv.ownBlock = some q → q < gE

theorem IW.grow {{w W : World}} {{g4 gA gE : Nat}} {{LL ws : List ByteArray}} {{acc : List Ev}} {{sv nv : Value}} {{e : Ev}} {{ns : List Int}} {W' : World} (h : IW w W g4 LL acc sv gA ws gE e nv ns) (hb : Below W.heap.size W W') : IW w W' g4 LL acc sv gA ws gE e nv ns :=
  ⟨h.rs.grow hb, (hb.block _ (Array.getElem?_eq_some_iff.1 h.wd).1).trans h.wd, (hb.block _ (Array.getElem?_eq_some_iff.1 h.ev).1).trans h.ev, ownsRow_below h.ns hb, h.d1, h.d2⟩

theorem IW.start {w W : World} {g4 gA : Nat} {LL ws : List ByteArray} {acc : List Ev} {sv : Value} (h : RSW w W g4 LL acc sv) (hw : W.heap[gA]? = some (.cells (ws.map Value.string).toArray 9 (0, 0))) : IW w (W.alloc (.cells #[.int .i64 0, .int .i64 0, .int .i64 0, .int .i64 0, .int .i64 0] 24)) g4 LL acc sv gA ws W.heap.size ⟨0, 0, 0, 0, 0⟩ (.slice none 0 0) [] :=
  ⟨h.grow (below_new _ _), (Below.heap_alloc _ _ _ (Array.getElem?_eq_some_iff.1 hw).1).trans hw, heap_alloc_new _ _, ⟨rfl, .inl ⟨rfl, rfl⟩⟩, ⟨(Array.getElem?_eq_some_iff.1 h.ll).1, (Array.getElem?_eq_some_iff.1 hw).1, h.tw.fb.lt⟩, fun q hq => (h.tw.row.lt q hq).2⟩

theorem IW.lt {{w W : World}} {{g4 gA gE : Nat}} {{LL ws : List ByteArray}} {{acc : List Ev}} {{sv nv : Value}} {{e : Ev}} {{ns : List Int}} (h : IW w W g4 LL acc sv gA ws gE e nv ns) : gE < W.heap.size := (Array.getElem?_eq_some_iff.1 h.ev).1

/-- A number of the event is put. -/
theorem IW.set {{w W : World}} {{g4 gA gE : Nat}} {{LL ws : List ByteArray}} {{acc : List Ev}} {{sv nv : Value}} {{e : Ev}} {{ns : List Int}} (h : IW w W g4 LL acc sv gA ws gE e nv ns) (i : Nat) (n : Int) (e' : Ev) (he : (#[.int .i64 e.at_, .int .i64 e.k, .int .i64 e.t, .int .i64 e.m, .int .i64 e.n] : Array Value).setIfInBounds i (.int .i64 n) = #[.int .i64 e'.at_, .int .i64 e'.k, .int .i64 e'.t, .int .i64 e'.m, .int .i64 e'.n]) : IW w (W.setCell ⟨gE, i, none⟩ (.int .i64 n)) g4 LL acc sv gA ws gE e' nv ns := by
  obtain ⟨q1, q2, q3⟩ := h.d1
  have hlt := h.lt
  refine ⟨⟨⟨⟨h.rs.tw.fb.bel.setCell (show w.heap.size ≤ gE by omega) _, ?_, h.rs.tw.fb.low⟩, ?_⟩, ?_⟩, ?_, ?_, ?_, h.d1, h.d2⟩
  · rw [Below.heap_setCell _ _ _ _ (by show w.heap.size ≠ gE; omega)]; exact h.rs.tw.fb.res
  · exact ownsRow_keep2 h.rs.tw.row (fun k hk => Below.heap_setCell _ _ _ _ (by show k ≠ gE; have := h.d2 k hk; omega))
  · rw [Below.heap_setCell _ _ _ _ (by show g4 ≠ gE; omega)]; exact h.rs.ll
  · rw [Below.heap_setCell _ _ _ _ (by show gA ≠ gE; omega)]; exact h.wd
  · rw [setCell_at h.ev, he]
  · exact ownsRow_keep2 h.ns (fun k hk => Below.heap_setCell _ _ _ _ (by show k ≠ gE; have := (h.ns.lt k hk).1; omega))

/-- A number more. -/
theorem IW.push {{w W : World}} {{g4 gA gE : Nat}} {{LL ws : List ByteArray}} {{acc : List Ev}} {{sv nv : Value}} {{e : Ev}} {{ns : List Int}} (h : IW w W g4 LL acc sv gA ws gE e nv ns) (n : Int) (hl : ns.length ≤ 100000) : ∃ ad c w4, (Builtin.append_ #[38, 38] 38 #[nv, .slice (some ⟨W.heap.size, 0, none⟩) 1 1]).run Tryd.prog (W.alloc (.cells #[.int .i64 n] 3)) = .ok (.slice ad (ns.length + 1) c) w4 ∧ IW w w4 g4 LL acc sv gA ws gE e (.slice ad (ns.length + 1) c) (ns ++ [n]) := by
  obtain ⟨q1, q2, q3⟩ := h.d1
  have hlt := h.lt
  obtain ⟨ad, c, w4, h1, h2, h3, h4⟩ := own_push (T := 38) (E := 3) Tryd.underlying38 infoIn rfl (by omega) h.ns [.int .i64 n] rfl (fun u hu => by simp at hu; subst hu; rfl) (by omega) (by omega) (by omega)
  refine ⟨ad, c, w4, h1, ⟨⟨⟨⟨h.rs.tw.fb.bel.trans (h3.mono (by omega)), h4 _ _ _ h.rs.tw.fb.res (.inr (by omega)), h.rs.tw.fb.low⟩, ?_⟩, h4 _ _ _ h.rs.ll (.inr (by omega))⟩, h4 _ _ _ h.wd (.inr (by omega)), h4 _ _ _ h.ev (.inr (by omega)), ?_, h.d1, h.d2⟩⟩
  · exact ownsRow_keep2 h.rs.tw.row (fun k hk => h3.block k (by have := h.d2 k hk; omega))
  · rw [List.length_append, List.map_append]
    exact h2

theorem IW.val {{w W : World}} {{g4 gA gE : Nat}} {{LL ws : List ByteArray}} {{acc : List Ev}} {{sv nv : Value}} {{e : Ev}} {{ns : List Int}} (h : IW w W g4 LL acc sv gA ws gE e nv ns) : ∃ ad c, nv = .slice ad ns.length c := owns_value h.ns

theorem IW.num {{w W : World}} {{g4 gA gE : Nat}} {{LL ws : List ByteArray}} {{acc : List Ev}} {{sv : Value}} {{e : Ev}} {{ns : List Int}} {ad : Option Addr} {c : Nat} (h : IW w W g4 LL acc sv gA ws gE e (.slice ad ns.length c) ns) (h0 : 0 < ns.length) : ∃ gn, ad = some ⟨gn, 0, none⟩ ∧ gE < gn ∧ gn < W.heap.size ∧ ∀ (q : Nat) (n : Int), ns[q]? = some n → W.cell? ⟨gn, q, none⟩ = some (.int .i64 n) := by
  obtain ⟨g, c', cur, h1, h2, h3, -, -, -, -, h4⟩ := own_cells h.ns h0
  cases h1
  exact ⟨g, rfl, by omega, h3, fun q n hq => h4 q _ (by rw [List.getElem?_map, hq]; rfl)⟩

theorem IW.five {{w W : World}} {{g4 gA gE : Nat}} {{LL ws : List ByteArray}} {{acc : List Ev}} {{sv nv : Value}} {{e : Ev}} {{ns : List Int}} (h : IW w W g4 LL acc sv gA ws gE e nv ns) : W.cell? ⟨gE, 0, none⟩ = some (.int .i64 e.at_) ∧ W.cell? ⟨gE, 1, none⟩ = some (.int .i64 e.k) ∧ W.cell? ⟨gE, 2, none⟩ = some (.int .i64 e.t) ∧ W.cell? ⟨gE, 3, none⟩ = some (.int .i64 e.m) ∧ W.cell? ⟨gE, 4, none⟩ = some (.int .i64 e.n) ∧ ∀ i, W.frozen? ⟨gE, i, none⟩ = false := by
  obtain ⟨c, f, -⟩ := cells_of (l := [_, _, _, _, _]) h.ev
  exact ⟨c 0 _ rfl, c 1 _ rfl, c 2 _ rfl, c 3 _ rfl, c 4 _ rfl, f⟩

theorem ReadLog_ends {w : World} {g : Nat} {c k p : Value} {a : Act} (h : w.heap[g]? = some (.cells #[c, k] 27 (0, 0))) (h2 : a.tmps[2]?.getD undef = p) (h3 : a.tmps[3]?.getD undef = .pointer (some ⟨g, 0, none⟩)) :
    (results Tryd.f9 a.tmps).run Tryd.prog w = .ok (.tuple #[p, .agg #[c, k]]) w := by
  obtain ⟨c1, f1, l1⟩ := cells_of (l := [_, _]) h
  have c10 := c1 0 _ rfl
  have c11 := c1 1 _ rfl
  simp [results, Tryd.results9, go_sem, h2, h3, c10, c11]
end Go.Proofs.YtccoobcggbbciakDoor
