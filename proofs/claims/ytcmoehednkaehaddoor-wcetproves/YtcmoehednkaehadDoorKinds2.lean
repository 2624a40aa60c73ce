import Derived.Test.YtcmoehednkaehadDoorGOpenI
namespace Go.Proofs.YtcmoehednkaehadDoor
open Go.ChangeShapes Go.WideShapes Go.ChangeAt Go.RowKit

theorem gNo : Tryd.prog.globalNamed "punctual/punctuallaw.noIns" = some 0 := by kernel_rfl
theorem tNo : (Tryd.prog.globals[0]?).map (·.type) = some 27 := by kernel_rfl

section
variable {H : Type} {enc : TypeId × Value → H} {w : World} {base : Nat} {sp : Nat → Bool} {held : Bool}

theorem int_one {cs : List Value} {o n : Nat} {z : Int} {y : DataW H × List MemPlace} (h : DataW.trod enc Tryd.prog w base sp held n 3 ((cs.drop o).take 1) = some y) (hy : y.1 = .lit (.int .i64 z)) : cs[o]? = some (.int .i64 z) := by
  obtain ⟨m, h1, rfl, -⟩ := DataW.trod_int Tryd.underlying3 h
  simp at hy
  subst hy
  have h0 : ((cs.drop o).take 1)[0]? = some (.int .i64 m) := by rw [h1]; rfl
  rw [List.getElem?_take_of_lt (by omega), List.getElem?_drop] at h0
  simpa using h0
end

/-- What the listed variables hold. -/
theorem of_laid2 {W : World} (h : laidMetH Tryd.prog Rows.wcetProvesUptoRow.laid W) : KindsIn W ∧ W.cell? ⟨0, 0, none⟩ = some (.int .i64 (-1)) ∧ W.cell? ⟨0, 1, none⟩ = some (.int .i64 (-2)) ∧ W.cell? ⟨0, 2, none⟩ = some (.int .i64 (-3)) := by
  rw [MakeChecks.laidMetH_plain _ _ _ (by kernel_rfl)] at h
  obtain ⟨ps, ⟨g0, t0, cs0, f0, p0, q0, hg0, ht0, hv0, hd0, ⟨g1, t1, cs1, f1, p1, q1, hg1, ht1, hv1, hd1, _, _⟩, _⟩, _, _⟩ := h
  obtain rfl := Option.some.inj (gKinds.symm.trans hg0)
  obtain rfl := Option.some.inj (gNo.symm.trans hg1)
  obtain rfl := Option.some.inj (tKinds.symm.trans ht0)
  obtain rfl := Option.some.inj (tNo.symm.trans ht1)
  have c0 : ∀ j, W.cell? ⟨2, j, none⟩ = cs0[j]? := World.var?_cell hg0 hv0
  have c1 : ∀ j, W.cell? ⟨0, j, none⟩ = cs1[j]? := World.var?_cell hg1 hv1
  refine ⟨?_, ?_⟩
  · obtain ⟨xs, m0, rfl, hx, -, hn, hel⟩ := DataW.trod_array Tryd.underlying144 hd0
    simp only [laidCells104] at hel
    match xs, hn with
    | [x0, x1, x2, x3, x4, x5, x6, x7, x8, x9, x10, x11, x12, x13, x14, x15, x16, x17, x18], _ =>
      simp only [Rows.laid_punctual_mach_kinds, Prod.mk.injEq, DataW.agg.injEq, List.map_cons, List.map_nil, List.cons.injEq, and_true] at hx
      obtain ⟨⟨e0, e1, e2, e3, e4, e5, e6, e7, e8, e9, e10, e11, e12, e13, e14, e15, e16, e17, e18⟩, -⟩ := hx
      have a0 : ∀ j u, cs0.toList[j]? = some u → W.cell? ⟨2, j, none⟩ = some u := fun j u hu => by rw [c0]; simpa using hu
      intro m h1 h2
      have h : m = 1 ∨ m = 2 ∨ m = 3 ∨ m = 4 ∨ m = 5 ∨ m = 6 ∨ m = 7 ∨ m = 8 ∨ m = 9 ∨ m = 10 ∨ m = 11 ∨ m = 12 ∨ m = 13 ∨ m = 14 ∨ m = 15 ∨ m = 16 ∨ m = 17 ∨ m = 18 := by omega
      rcases h with rfl | rfl | rfl | rfl | rfl | rfl | rfl | rfl | rfl | rfl | rfl | rfl | rfl | rfl | rfl | rfl | rfl | rfl
      · obtain ⟨r0, r1, r2, r3, r4, r5⟩ := row104 (o := 1 * 6) (show DataW.trod _ Tryd.prog W 0 _ _ m0 143 ((cs0.toList.drop (1 * 6)).take 6) = some x1 from hel 1 (by omega)) e1.symm
        exact ⟨a0 _ _ r0, a0 _ _ r1, a0 _ _ r2, a0 _ _ r3, a0 _ _ r4, a0 _ _ r5⟩
      · obtain ⟨r0, r1, r2, r3, r4, r5⟩ := row104 (o := 2 * 6) (show DataW.trod _ Tryd.prog W 0 _ _ m0 143 ((cs0.toList.drop (2 * 6)).take 6) = some x2 from hel 2 (by omega)) e2.symm
        exact ⟨a0 _ _ r0, a0 _ _ r1, a0 _ _ r2, a0 _ _ r3, a0 _ _ r4, a0 _ _ r5⟩
      · obtain ⟨r0, r1, r2, r3, r4, r5⟩ := row104 (o := 3 * 6) (show DataW.trod _ Tryd.prog W 0 _ _ m0 143 ((cs0.toList.drop (3 * 6)).take 6) = some x3 from hel 3 (by omega)) e3.symm
        exact ⟨a0 _ _ r0, a0 _ _ r1, a0 _ _ r2, a0 _ _ r3, a0 _ _ r4, a0 _ _ r5⟩
      · obtain ⟨r0, r1, r2, r3, r4, r5⟩ := row104 (o := 4 * 6) (show DataW.trod _ Tryd.prog W 0 _ _ m0 143 ((cs0.toList.drop (4 * 6)).take 6) = some x4 from hel 4 (by omega)) e4.symm
        exact ⟨a0 _ _ r0, a0 _ _ r1, a0 _ _ r2, a0 _ _ r3, a0 _ _ r4, a0 _ _ r5⟩
      · obtain ⟨r0, r1, r2, r3, r4, r5⟩ := row104 (o := 5 * 6) (show DataW.trod _ Tryd.prog W 0 _ _ m0 143 ((cs0.toList.drop (5 * 6)).take 6) = some x5 from hel 5 (by omega)) e5.symm
        exact ⟨a0 _ _ r0, a0 _ _ r1, a0 _ _ r2, a0 _ _ r3, a0 _ _ r4, a0 _ _ r5⟩
      · obtain ⟨r0, r1, r2, r3, r4, r5⟩ := row104 (o := 6 * 6) (show DataW.trod _ Tryd.prog W 0 _ _ m0 143 ((cs0.toList.drop (6 * 6)).take 6) = some x6 from hel 6 (by omega)) e6.symm
        exact ⟨a0 _ _ r0, a0 _ _ r1, a0 _ _ r2, a0 _ _ r3, a0 _ _ r4, a0 _ _ r5⟩
      · obtain ⟨r0, r1, r2, r3, r4, r5⟩ := row104 (o := 7 * 6) (show DataW.trod _ Tryd.prog W 0 _ _ m0 143 ((cs0.toList.drop (7 * 6)).take 6) = some x7 from hel 7 (by omega)) e7.symm
        exact ⟨a0 _ _ r0, a0 _ _ r1, a0 _ _ r2, a0 _ _ r3, a0 _ _ r4, a0 _ _ r5⟩
      · obtain ⟨r0, r1, r2, r3, r4, r5⟩ := row104 (o := 8 * 6) (show DataW.trod _ Tryd.prog W 0 _ _ m0 143 ((cs0.toList.drop (8 * 6)).take 6) = some x8 from hel 8 (by omega)) e8.symm
        exact ⟨a0 _ _ r0, a0 _ _ r1, a0 _ _ r2, a0 _ _ r3, a0 _ _ r4, a0 _ _ r5⟩
      · obtain ⟨r0, r1, r2, r3, r4, r5⟩ := row104 (o := 9 * 6) (show DataW.trod _ Tryd.prog W 0 _ _ m0 143 ((cs0.toList.drop (9 * 6)).take 6) = some x9 from hel 9 (by omega)) e9.symm
        exact ⟨a0 _ _ r0, a0 _ _ r1, a0 _ _ r2, a0 _ _ r3, a0 _ _ r4, a0 _ _ r5⟩
      · obtain ⟨r0, r1, r2, r3, r4, r5⟩ := row104 (o := 10 * 6) (show DataW.trod _ Tryd.prog W 0 _ _ m0 143 ((cs0.toList.drop (10 * 6)).take 6) = some x10 from hel 10 (by omega)) e10.symm
        exact ⟨a0 _ _ r0, a0 _ _ r1, a0 _ _ r2, a0 _ _ r3, a0 _ _ r4, a0 _ _ r5⟩
      · obtain ⟨r0, r1, r2, r3, r4, r5⟩ := row104 (o := 11 * 6) (show DataW.trod _ Tryd.prog W 0 _ _ m0 143 ((cs0.toList.drop (11 * 6)).take 6) = some x11 from hel 11 (by omega)) e11.symm
        exact ⟨a0 _ _ r0, a0 _ _ r1, a0 _ _ r2, a0 _ _ r3, a0 _ _ r4, a0 _ _ r5⟩
      · obtain ⟨r0, r1, r2, r3, r4, r5⟩ := row104 (o := 12 * 6) (show DataW.trod _ Tryd.prog W 0 _ _ m0 143 ((cs0.toList.drop (12 * 6)).take 6) = some x12 from hel 12 (by omega)) e12.symm
        exact ⟨a0 _ _ r0, a0 _ _ r1, a0 _ _ r2, a0 _ _ r3, a0 _ _ r4, a0 _ _ r5⟩
      · obtain ⟨r0, r1, r2, r3, r4, r5⟩ := row104 (o := 13 * 6) (show DataW.trod _ Tryd.prog W 0 _ _ m0 143 ((cs0.toList.drop (13 * 6)).take 6) = some x13 from hel 13 (by omega)) e13.symm
        exact ⟨a0 _ _ r0, a0 _ _ r1, a0 _ _ r2, a0 _ _ r3, a0 _ _ r4, a0 _ _ r5⟩
      · obtain ⟨r0, r1, r2, r3, r4, r5⟩ := row104 (o := 14 * 6) (show DataW.trod _ Tryd.prog W 0 _ _ m0 143 ((cs0.toList.drop (14 * 6)).take 6) = some x14 from hel 14 (by omega)) e14.symm
        exact ⟨a0 _ _ r0, a0 _ _ r1, a0 _ _ r2, a0 _ _ r3, a0 _ _ r4, a0 _ _ r5⟩
      · obtain ⟨r0, r1, r2, r3, r4, r5⟩ := row104 (o := 15 * 6) (show DataW.trod _ Tryd.prog W 0 _ _ m0 143 ((cs0.toList.drop (15 * 6)).take 6) = some x15 from hel 15 (by omega)) e15.symm
        exact ⟨a0 _ _ r0, a0 _ _ r1, a0 _ _ r2, a0 _ _ r3, a0 _ _ r4, a0 _ _ r5⟩
      · obtain ⟨r0, r1, r2, r3, r4, r5⟩ := row104 (o := 16 * 6) (show DataW.trod _ Tryd.prog W 0 _ _ m0 143 ((cs0.toList.drop (16 * 6)).take 6) = some x16 from hel 16 (by omega)) e16.symm
        exact ⟨a0 _ _ r0, a0 _ _ r1, a0 _ _ r2, a0 _ _ r3, a0 _ _ r4, a0 _ _ r5⟩
      · obtain ⟨r0, r1, r2, r3, r4, r5⟩ := row104 (o := 17 * 6) (show DataW.trod _ Tryd.prog W 0 _ _ m0 143 ((cs0.toList.drop (17 * 6)).take 6) = some x17 from hel 17 (by omega)) e17.symm
        exact ⟨a0 _ _ r0, a0 _ _ r1, a0 _ _ r2, a0 _ _ r3, a0 _ _ r4, a0 _ _ r5⟩
      · obtain ⟨r0, r1, r2, r3, r4, r5⟩ := row104 (o := 18 * 6) (show DataW.trod _ Tryd.prog W 0 _ _ m0 143 ((cs0.toList.drop (18 * 6)).take 6) = some x18 from hel 18 (by omega)) e18.symm
        exact ⟨a0 _ _ r0, a0 _ _ r1, a0 _ _ r2, a0 _ _ r3, a0 _ _ r4, a0 _ _ r5⟩
  · have a1 : ∀ j u, cs1.toList[j]? = some u → W.cell? ⟨0, j, none⟩ = some u := fun j u hu => by rw [c1]; simpa using hu
    obtain ⟨xs, n1, rfl, hx, -, hlen, hf⟩ := DataW.trod_struct Tryd.underlying27 hd1
    match xs, hlen with
    | [y0, y1, y2], _ =>
      simp only [Rows.laid_punctual_punctuallaw_noIns, Prod.mk.injEq, DataW.agg.injEq, List.map_cons, List.map_nil, List.cons.injEq, and_true] at hx
      obtain ⟨⟨e0, e1, e2⟩, -⟩ := hx
      have f0 : DataW.trod _ Tryd.prog W 0 _ _ n1 3 ((cs1.toList.drop 0).take (Tryd.prog.cellsOf 3)) = some y0 := hf 0 _ rfl
      have f1 : DataW.trod _ Tryd.prog W 0 _ _ n1 3 ((cs1.toList.drop 1).take (Tryd.prog.cellsOf 3)) = some y1 := hf 1 _ rfl
      have f2 : DataW.trod _ Tryd.prog W 0 _ _ n1 3 ((cs1.toList.drop 2).take (Tryd.prog.cellsOf 3)) = some y2 := hf 2 _ rfl
      rw [laidCells3] at f0 f1 f2
      exact ⟨a1 _ _ (int_one f0 e0.symm), a1 _ _ (int_one f1 e1.symm), a1 _ _ (int_one f2 e2.symm)⟩
end Go.Proofs.YtcmoehednkaehadDoor
