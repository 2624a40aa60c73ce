import Derived.Test.YtccoobcggbbcialDoorHQ0
import Derived.Test.YtccoobcggbbcialDoorNM
namespace Go.Proofs.YtccoobcggbbcialDoor
open Go.ChangeShapes Go.WideShapes Go.ChangeAt Go.RowKit

/-- What PartTimes holds: the fault's block, and both rows of numbers. -/
structure PT (w W : World) (GT GD : Nat) (tk td : List Int) : Prop where
  fb : FB w W w.heap.size
  rt : W.heap[GT]? = some (.cells (tk.map (Value.int .i64)).toArray 3 (0, 0))
  rd : W.heap[GD]? = some (.cells (td.map (Value.int .i64)).toArray 3 (0, 0))
  lt : w.heap.size < GT
  ld : w.heap.size < GD
  ne : GT ≠ GD

theorem PT.grow {w W W' : World} {GT GD : Nat} {tk td : List Int} (h : PT w W GT GD tk td) (hb : Below W.heap.size W W') : PT w W' GT GD tk td :=
  ⟨h.fb.grow hb, (hb.block _ (Array.getElem?_eq_some_iff.1 h.rt).1).trans h.rt, (hb.block _ (Array.getElem?_eq_some_iff.1 h.rd).1).trans h.rd, h.lt, h.ld, h.ne⟩
theorem PT.setT {w W : World} {GT GD : Nat} {tk td : List Int} (h : PT w W GT GD tk td) (i : Nat) (z : Int) : PT w (W.setCell ⟨GT, i, none⟩ (.int .i64 z)) GT GD (tk.set i z) td := by
  have h1 := h.lt
  refine ⟨⟨h.fb.bel.setCell (show w.heap.size ≤ GT by omega) _, ?_, h.fb.low⟩, ?_, ?_, h.lt, h.ld, h.ne⟩
  · rw [Below.heap_setCell _ _ _ _ (show w.heap.size ≠ GT by omega)]; exact h.fb.res
  · rw [setCell_list h.rt, List.map_set]
  · rw [Below.heap_setCell _ _ _ _ (Ne.symm h.ne)]; exact h.rd
theorem PT.setD {w W : World} {GT GD : Nat} {tk td : List Int} (h : PT w W GT GD tk td) (i : Nat) (z : Int) : PT w (W.setCell ⟨GD, i, none⟩ (.int .i64 z)) GT GD tk (td.set i z) := by
  have h1 := h.ld
  refine ⟨⟨h.fb.bel.setCell (show w.heap.size ≤ GD by omega) _, ?_, h.fb.low⟩, ?_, ?_, h.lt, h.ld, h.ne⟩
  · rw [Below.heap_setCell _ _ _ _ (show w.heap.size ≠ GD by omega)]; exact h.fb.res
  · rw [Below.heap_setCell _ _ _ _ h.ne]; exact h.rt
  · rw [setCell_list h.rd, List.map_set]
theorem PT.rowT {w W : World} {GT GD : Nat} {tk td : List Int} (h : PT w W GT GD tk td) : RowSl nuV W tk (.slice (some ⟨GT, 0, none⟩) tk.length tk.length) := row_ints h.rt
theorem PT.rowD {w W : World} {GT GD : Nat} {tk td : List Int} (h : PT w W GT GD tk td) : RowSl nuV W td (.slice (some ⟨GD, 0, none⟩) td.length td.length) := row_ints h.rd

theorem nu_one {l : List Int} {u : Value} (h : u ∈ l.map (Value.int .i64)) : u.oneCell' = true := by
  obtain ⟨z, -, rfl⟩ := List.mem_map.1 h
  rfl

/-- Both rows, one behind the other, in a row of one's own. -/
theorem two_app (W : World) (GT GD n : Nat) (tk td : List Int) (hT : W.heap[GT]? = some (.cells (tk.map (Value.int .i64)).toArray 3 (0, 0))) (hD : W.heap[GD]? = some (.cells (td.map (Value.int .i64)).toArray 3 (0, 0))) (lT : tk.length = n) (lD : td.length = n) (h8 : n ≤ 8) :
    ∃ v1 W1 ad c W2, (Builtin.append_ #[36, 36] 36 #[.slice (some ⟨W.heap.size, 0, none⟩) 0 0, .slice (some ⟨GT, 0, none⟩) n n]).run Tryd.prog (W.alloc (.cells #[] 3)) = .ok v1 W1 ∧ (Builtin.append_ #[36, 36] 36 #[v1, .slice (some ⟨GD, 0, none⟩) n n]).run Tryd.prog W1 = .ok (.slice ad (n + n) c) W2 ∧ W2.ownsRow W.heap.size 3 1 (.slice ad (n + n) c) (n + n) ((tk ++ td).map (Value.int .i64)) ∧ Below W.heap.size W W2 := by
  obtain ⟨i0, hi0, hz0, hz1, hz2⟩ := info_parts infoI3
  have hown : (W.alloc (.cells #[] 3)).ownsRow W.heap.size 3 1 (.slice (some ⟨W.heap.size, 0, none⟩) 0 0) 0 [] := ⟨rfl, .inr ⟨W.heap.size, 0, #[], rfl, Nat.le_refl _, heap_alloc_new _ _, Nat.le_refl _, by unfold maxLen; omega, rfl, rfl⟩⟩
  obtain ⟨v1, W1, hrun1, ho1, hg1, -, -⟩ := run_append_own_at (P := Tryd.prog) (w := W.alloc (.cells #[] 3)) W.heap.size 36 36 3 i0 _ 1 8 Tryd.underlying36 hi0 hz0 hz1 hz2 rfl (by omega) _ 0 [] hown ⟨GT, 0, none⟩ n n (tk.map (Value.int .i64)) (by rw [List.length_map, lT]; omega) (fun j u hj => by rw [Addr.add_lit, Nat.zero_add]; exact below_cell (below_new _ _) ((cells_of hT).1 j u hj)) (fun u hu => nu_one hu) (by unfold maxLen; omega) (by omega) (by rw [World.size_alloc]; omega)
  have hb1 : Below W.heap.size W W1 := (below_new W _).grown hg1 (by rw [World.size_alloc]; omega) (fun k hk => by cases hk; exact Nat.le_refl _)
  rw [Nat.zero_add, List.nil_append] at ho1
  obtain ⟨v2, W2, hrun2, ho2, hg2, -, -⟩ := run_append_own_at (P := Tryd.prog) (w := W1) W.heap.size 36 36 3 i0 _ 1 8 Tryd.underlying36 hi0 hz0 hz1 hz2 rfl (by omega) _ n _ ho1 ⟨GD, 0, none⟩ n n (td.map (Value.int .i64)) (by rw [List.length_map, lD]; omega) (fun j u hj => by rw [Addr.add_lit, Nat.zero_add]; exact below_cell hb1 ((cells_of hD).1 j u hj)) (fun u hu => nu_one hu) (by unfold maxLen; omega) (by omega) hb1.size
  obtain ⟨ad, c, rfl⟩ := owns_value ho2
  exact ⟨v1, W1, ad, c, W2, hrun1, hrun2, by rw [List.map_append]; exact ho2, hb1.grown hg2 hb1.size (fun k hk => (ho1.lt k hk).1)⟩

/-- One more message, in a row of one's own. -/
theorem push_fr {W : World} {B n ge : Nat} {fx : List Value} {fv : Value} (h : W.ownsRow B 93 4 fv n fx) (x : Fr) (hc : W.heap[ge]? = some (.cells #[.int .i64 x.c, .int .i64 x.t, .int .i64 x.d, .int .i64 x.j] 93 (0, 0))) (hl : n ≤ 100) (hB : B ≤ W.heap.size) : ∃ ad c w4, (Builtin.append_ #[91, 91] 91 #[fv, .slice (some ⟨ge, 0, none⟩) 1 1]).run Tryd.prog W = .ok (.slice ad (n + 1) c) w4 ∧ w4.ownsRow B 93 4 (.slice ad (n + 1) c) (n + 1) (fx ++ x.vals) ∧ Below B W w4 := by
  obtain ⟨ad, c, w4, h1, h2, h3, -⟩ := own_pushA (T := 91) (E := 93) Tryd.underlying91 infoFr rfl (by omega) h x.vals rfl (cells_of (l := x.vals) hc).1 (fun u hu => Fr.oneC hu) (by omega) (by omega) hB
  exact ⟨ad, c, w4, h1, h2, h3⟩
/-- One more task, in a row of one's own. -/
theorem push_ta {W : World} {B n ge : Nat} {sx : List Value} {sv : Value} (h : W.ownsRow B 27 7 sv n sx) (x : Ta) (hc : W.heap[ge]? = some (.cells #[.string x.nm, .int .i64 x.c, .int .i64 x.t, .int .i64 x.d, .int .i64 x.j, .int .i64 x.o, .int .i64 x.p] 27 (0, 0))) (hl : n ≤ 100) (hB : B ≤ W.heap.size) : ∃ ad c w4, (Builtin.append_ #[22, 22] 22 #[sv, .slice (some ⟨ge, 0, none⟩) 1 1]).run Tryd.prog W = .ok (.slice ad (n + 1) c) w4 ∧ w4.ownsRow B 27 7 (.slice ad (n + 1) c) (n + 1) (sx ++ x.vals) ∧ Below B W w4 := by
  obtain ⟨ad, c, w4, h1, h2, h3, -⟩ := own_pushA (T := 22) (E := 27) Tryd.underlying22 infoTa rfl (by omega) h x.vals rfl (cells_of (l := x.vals) hc).1 (fun u hu => Ta.one hu) (by omega) (by omega) hB
  exact ⟨ad, c, w4, h1, h2, h3⟩

/-- What is left of times. -/
theorem nuDrop {W : World} {ts : List Int} {b o c : Nat} (h : RowSl nuV W ts (.slice (some ⟨b, o, none⟩) ts.length c)) (h1 : 1 ≤ ts.length) : RowSl nuV W ts.tail (.slice (if c = 1 then some ⟨b, o, none⟩ else some ⟨b, o + 1, none⟩) (ts.length - 1) (c - 1)) := by
  obtain ⟨ad, c', he, -, hc, hr⟩ := h
  cases he
  cases ts with
  | nil => simp at h1
  | cons t r =>
    simp only [List.length_cons, List.tail_cons, Nat.add_sub_cancel] at hc ⊢
    rcases hr with hr | ⟨b', o', e, hr⟩
    · cases hr
    · cases e
      by_cases e1 : c = 1
      · have : r = [] := List.eq_nil_of_length_eq_zero (by omega)
        subst this
        rw [if_pos e1]
        exact ⟨_, _, rfl, (fun e => by cases e), Nat.zero_le _, .inl rfl⟩
      · rw [if_neg e1]
        refine ⟨_, _, rfl, (fun e => by cases e), by omega, .inr ⟨b, o + 1, rfl, fun q u hq => ?_⟩⟩
        have h9 := hr (q + 1) u (by simpa [nuV] using hq)
        rwa [show o + (q + 1) = o + 1 + q by omega] at h9
end Go.Proofs.YtccoobcggbbcialDoor
