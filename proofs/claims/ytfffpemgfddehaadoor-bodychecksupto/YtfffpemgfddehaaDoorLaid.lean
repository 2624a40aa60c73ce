import Derived.Test.YtfffpemgfddehaaDoorStmtB
import Derived.LaidMore
import Derived.ChangeArms
import Derived.OpenShut
namespace Go.Proofs.YtfffpemgfddehaaDoor
open Go.ChangeShapes Go.WideShapes Go.ChangeAt Go.RowKit

theorem gShapes : Tryd.prog.globalNamed "punctual/tongue.shapes" = some 0 := by kernel_rfl
theorem gForms : Tryd.prog.globalNamed "punctual/tongue.forms" = some 1 := by kernel_rfl
theorem tShapes : (Tryd.prog.globals[0]?).map (·.type) = some 67 := by kernel_rfl
theorem tForms : (Tryd.prog.globals[1]?).map (·.type) = some 83 := by kernel_rfl
theorem laidCellsF : Tryd.prog.cellsOf 82 = 2 := by kernel_rfl
theorem laidCells66 : Tryd.prog.cellsOf 66 = 6 := by kernel_rfl
theorem laidCells67 : Tryd.prog.cellsOf 67 = 48 := by kernel_rfl
theorem laidCells3 : Tryd.prog.cellsOf 3 = 1 := by kernel_rfl
theorem laidCells4 : Tryd.prog.cellsOf 4 = 1 := by kernel_rfl

section
variable {H : Type} {enc : TypeId × Value → H} {w : World} {base : Nat} {sp : Nat → Bool} {held : Bool}

theorem one_at {cs : List Value} {o k j : Nat} {c : Value} (hj : j < k) (h : (((cs.drop o).take k).drop j).take 1 = [c]) : cs[o + j]? = some c := by
  have h0 : ((((cs.drop o).take k).drop j).take 1)[0]? = some c := by rw [h]; rfl
  rw [List.getElem?_take_of_lt (by omega), List.getElem?_drop, List.getElem?_take_of_lt (by omega), List.getElem?_drop] at h0
  simpa using h0

theorem int_at {cs : List Value} {o k j n : Nat} {z : Int} {y : DataW H × List MemPlace} (hj : j < k) (h : DataW.trod enc Tryd.prog w base sp held n 3 ((((cs.drop o).take k).drop j).take 1) = some y) (hy : y.1 = .lit (.int .i64 z)) : cs[o + j]? = some (.int .i64 z) := by
  obtain ⟨m, h1, rfl, -⟩ := DataW.trod_int Tryd.underlying3 h
  simp at hy
  subst hy
  exact one_at hj h1

theorem bool_at {cs : List Value} {o k j n : Nat} {z : Bool} {y : DataW H × List MemPlace} (hj : j < k) (h : DataW.trod enc Tryd.prog w base sp held n 4 ((((cs.drop o).take k).drop j).take 1) = some y) (hy : y.1 = .lit (.bool z)) : cs[o + j]? = some (.bool z) := by
  obtain ⟨m, h1, rfl⟩ := DataW.trod_bool Tryd.underlying4 h
  simp at hy
  subst hy
  exact one_at hj h1

/-- A row of the table of statements' shapes. -/
theorem row66 {cs : List Value} {o n : Nat} {k0 k1 : Int} {b2 b3 b4 b5 : Bool} {y : DataW H × List MemPlace} (h : DataW.trod enc Tryd.prog w base sp held n 66 ((cs.drop o).take 6) = some y)
    (hy : y.1 = .agg [.lit (.int .i64 k0), .lit (.int .i64 k1), .lit (.bool b2), .lit (.bool b3), .lit (.bool b4), .lit (.bool b5)]) :
    cs[o]? = some (.int .i64 k0) ∧ cs[o + 1]? = some (.int .i64 k1) ∧ cs[o + 2]? = some (.bool b2) ∧ cs[o + 3]? = some (.bool b3) ∧ cs[o + 4]? = some (.bool b4) ∧ cs[o + 5]? = some (.bool b5) := by
  obtain ⟨xs, n1, rfl, rfl, -, hlen, hf⟩ := DataW.trod_struct Tryd.underlying66 h
  match xs, hlen with
  | [y0, y1, y2, y3, y4, y5], _ =>
    simp only [List.map_cons, List.map_nil, DataW.agg.injEq, List.cons.injEq, and_true] at hy
    obtain ⟨e0, e1, e2, e3, e4, e5⟩ := hy
    have f0 : DataW.trod enc Tryd.prog w base sp held n1 3 ((((cs.drop o).take 6).drop 0).take (Tryd.prog.cellsOf 3)) = some y0 := hf 0 _ rfl
    have f1 : DataW.trod enc Tryd.prog w base sp held n1 3 ((((cs.drop o).take 6).drop 1).take (Tryd.prog.cellsOf 3)) = some y1 := hf 1 _ rfl
    have f2 : DataW.trod enc Tryd.prog w base sp held n1 4 ((((cs.drop o).take 6).drop 2).take (Tryd.prog.cellsOf 4)) = some y2 := hf 2 _ rfl
    have f3 : DataW.trod enc Tryd.prog w base sp held n1 4 ((((cs.drop o).take 6).drop 3).take (Tryd.prog.cellsOf 4)) = some y3 := hf 3 _ rfl
    have f4 : DataW.trod enc Tryd.prog w base sp held n1 4 ((((cs.drop o).take 6).drop 4).take (Tryd.prog.cellsOf 4)) = some y4 := hf 4 _ rfl
    have f5 : DataW.trod enc Tryd.prog w base sp held n1 4 ((((cs.drop o).take 6).drop 5).take (Tryd.prog.cellsOf 4)) = some y5 := hf 5 _ rfl
    rw [laidCells3] at f0 f1
    rw [laidCells4] at f2 f3 f4 f5
    exact ⟨int_at (by omega) f0 e0, int_at (by omega) f1 e1, bool_at (by omega) f2 e2, bool_at (by omega) f3 e3, bool_at (by omega) f4 e4, bool_at (by omega) f5 e5⟩
/-- A row of the table of expressions' forms. -/
theorem rowF {cs : List Value} {o n : Nat} {k0 k1 : Int} {y : DataW H × List MemPlace} (h : DataW.trod enc Tryd.prog w base sp held n 82 ((cs.drop o).take 2) = some y) (hy : y.1 = .agg [.lit (.int .i64 k0), .lit (.int .i64 k1)]) :
    cs[o]? = some (.int .i64 k0) ∧ cs[o + 1]? = some (.int .i64 k1) := by
  obtain ⟨xs, n1, rfl, rfl, -, hlen, hf⟩ := DataW.trod_struct Tryd.underlying82 h
  match xs, hlen with
  | [y0, y1], _ =>
    simp only [List.map_cons, List.map_nil, DataW.agg.injEq, List.cons.injEq, and_true] at hy
    obtain ⟨e0, e1⟩ := hy
    have f0 : DataW.trod enc Tryd.prog w base sp held n1 3 ((((cs.drop o).take 2).drop 0).take (Tryd.prog.cellsOf 3)) = some y0 := hf 0 _ rfl
    have f1 : DataW.trod enc Tryd.prog w base sp held n1 3 ((((cs.drop o).take 2).drop 1).take (Tryd.prog.cellsOf 3)) = some y1 := hf 1 _ rfl
    rw [laidCells3] at f0 f1
    exact ⟨int_at (by omega) f0 e0, int_at (by omega) f1 e1⟩
end

/-- What the listed variables hold. -/
theorem of_laid {W : World} (h : laidMetH Tryd.prog Rows.bodyChecksUptoRow.laid W) : ShapesIn W ∧ FormsIn W := by
  rw [MakeChecks.laidMetH_plain _ _ _ (by kernel_rfl)] at h
  obtain ⟨ps, ⟨g0, t0, cs0, f0, p0, q0, hg0, ht0, hv0, hd0, ⟨g1, t1, cs1, f1, p1, q1, hg1, ht1, hv1, hd1, _, _⟩, _⟩, _, _⟩ := h
  obtain rfl := Option.some.inj (gShapes.symm.trans hg0)
  obtain rfl := Option.some.inj (gForms.symm.trans hg1)
  obtain rfl := Option.some.inj (tShapes.symm.trans ht0)
  obtain rfl := Option.some.inj (tForms.symm.trans ht1)
  have c0 : ∀ j, W.cell? ⟨0, j, none⟩ = cs0[j]? := World.var?_cell hg0 hv0
  have c1 : ∀ j, W.cell? ⟨1, j, none⟩ = cs1[j]? := World.var?_cell hg1 hv1
  obtain ⟨xs, m0, rfl, hx, -, hn, hel⟩ := DataW.trod_array Tryd.underlying67 hd0
  obtain ⟨zs, m1, rfl, hz, -, hnz, hez⟩ := DataW.trod_array Tryd.underlying83 hd1
  simp only [laidCells66] at hel
  simp only [laidCellsF] at hez
  match xs, hn with
  | [x0, x1, x2, x3, x4, x5, x6, x7], _ =>
    match zs, hnz with
    | [z0, z1, z2, z3, z4, z5, z6, z7], _ =>
      simp only [Rows.laid_punctual_tongue_shapes, Prod.mk.injEq, DataW.agg.injEq, List.map_cons, List.map_nil, List.cons.injEq, and_true] at hx
      simp only [Rows.laid_punctual_tongue_forms, Prod.mk.injEq, DataW.agg.injEq, List.map_cons, List.map_nil, List.cons.injEq, and_true] at hz
      obtain ⟨⟨ex0, ex1, ex2, ex3, ex4, ex5, ex6, ex7⟩, -⟩ := hx
      obtain ⟨⟨ez0, ez1, ez2, ez3, ez4, ez5, ez6, ez7⟩, -⟩ := hz
      have a0 : ∀ j u, cs0.toList[j]? = some u → W.cell? ⟨0, j, none⟩ = some u := fun j u hu => by rw [c0]; simpa using hu
      have a1 : ∀ j u, cs1.toList[j]? = some u → W.cell? ⟨1, j, none⟩ = some u := fun j u hu => by rw [c1]; simpa using hu
      refine ⟨fun m h1 h2 => ?_, fun m h1 h2 => ?_⟩
      · match m, h1, h2 with
        | 1, _, _ =>
          have r := row66 (o := 1 * 6) (show DataW.trod _ Tryd.prog W 0 _ _ m0 66 ((cs0.toList.drop (1 * 6)).take 6) = some x1 from hel 1 (by omega)) ex1.symm
          exact ⟨a0 _ _ r.1, a0 _ _ r.2.1, a0 _ _ r.2.2.1, a0 _ _ r.2.2.2.1, a0 _ _ r.2.2.2.2.1, a0 _ _ r.2.2.2.2.2⟩
        | 2, _, _ =>
          have r := row66 (o := 2 * 6) (show DataW.trod _ Tryd.prog W 0 _ _ m0 66 ((cs0.toList.drop (2 * 6)).take 6) = some x2 from hel 2 (by omega)) ex2.symm
          exact ⟨a0 _ _ r.1, a0 _ _ r.2.1, a0 _ _ r.2.2.1, a0 _ _ r.2.2.2.1, a0 _ _ r.2.2.2.2.1, a0 _ _ r.2.2.2.2.2⟩
        | 3, _, _ =>
          have r := row66 (o := 3 * 6) (show DataW.trod _ Tryd.prog W 0 _ _ m0 66 ((cs0.toList.drop (3 * 6)).take 6) = some x3 from hel 3 (by omega)) ex3.symm
          exact ⟨a0 _ _ r.1, a0 _ _ r.2.1, a0 _ _ r.2.2.1, a0 _ _ r.2.2.2.1, a0 _ _ r.2.2.2.2.1, a0 _ _ r.2.2.2.2.2⟩
        | 4, _, _ =>
          have r := row66 (o := 4 * 6) (show DataW.trod _ Tryd.prog W 0 _ _ m0 66 ((cs0.toList.drop (4 * 6)).take 6) = some x4 from hel 4 (by omega)) ex4.symm
          exact ⟨a0 _ _ r.1, a0 _ _ r.2.1, a0 _ _ r.2.2.1, a0 _ _ r.2.2.2.1, a0 _ _ r.2.2.2.2.1, a0 _ _ r.2.2.2.2.2⟩
        | 5, _, _ =>
          have r := row66 (o := 5 * 6) (show DataW.trod _ Tryd.prog W 0 _ _ m0 66 ((cs0.toList.drop (5 * 6)).take 6) = some x5 from hel 5 (by omega)) ex5.symm
          exact ⟨a0 _ _ r.1, a0 _ _ r.2.1, a0 _ _ r.2.2.1, a0 _ _ r.2.2.2.1, a0 _ _ r.2.2.2.2.1, a0 _ _ r.2.2.2.2.2⟩
        | 6, _, _ =>
          have r := row66 (o := 6 * 6) (show DataW.trod _ Tryd.prog W 0 _ _ m0 66 ((cs0.toList.drop (6 * 6)).take 6) = some x6 from hel 6 (by omega)) ex6.symm
          exact ⟨a0 _ _ r.1, a0 _ _ r.2.1, a0 _ _ r.2.2.1, a0 _ _ r.2.2.2.1, a0 _ _ r.2.2.2.2.1, a0 _ _ r.2.2.2.2.2⟩
        | 7, _, _ =>
          have r := row66 (o := 7 * 6) (show DataW.trod _ Tryd.prog W 0 _ _ m0 66 ((cs0.toList.drop (7 * 6)).take 6) = some x7 from hel 7 (by omega)) ex7.symm
          exact ⟨a0 _ _ r.1, a0 _ _ r.2.1, a0 _ _ r.2.2.1, a0 _ _ r.2.2.2.1, a0 _ _ r.2.2.2.2.1, a0 _ _ r.2.2.2.2.2⟩
      · match m, h1, h2 with
        | 1, _, _ =>
          have r := rowF (o := 1 * 2) (show DataW.trod _ Tryd.prog W 0 _ _ m1 82 ((cs1.toList.drop (1 * 2)).take 2) = some z1 from hez 1 (by omega)) ez1.symm
          exact ⟨a1 _ _ r.1, a1 _ _ r.2⟩
        | 2, _, _ =>
          have r := rowF (o := 2 * 2) (show DataW.trod _ Tryd.prog W 0 _ _ m1 82 ((cs1.toList.drop (2 * 2)).take 2) = some z2 from hez 2 (by omega)) ez2.symm
          exact ⟨a1 _ _ r.1, a1 _ _ r.2⟩
        | 3, _, _ =>
          have r := rowF (o := 3 * 2) (show DataW.trod _ Tryd.prog W 0 _ _ m1 82 ((cs1.toList.drop (3 * 2)).take 2) = some z3 from hez 3 (by omega)) ez3.symm
          exact ⟨a1 _ _ r.1, a1 _ _ r.2⟩
        | 4, _, _ =>
          have r := rowF (o := 4 * 2) (show DataW.trod _ Tryd.prog W 0 _ _ m1 82 ((cs1.toList.drop (4 * 2)).take 2) = some z4 from hez 4 (by omega)) ez4.symm
          exact ⟨a1 _ _ r.1, a1 _ _ r.2⟩
        | 5, _, _ =>
          have r := rowF (o := 5 * 2) (show DataW.trod _ Tryd.prog W 0 _ _ m1 82 ((cs1.toList.drop (5 * 2)).take 2) = some z5 from hez 5 (by omega)) ez5.symm
          exact ⟨a1 _ _ r.1, a1 _ _ r.2⟩
        | 6, _, _ =>
          have r := rowF (o := 6 * 2) (show DataW.trod _ Tryd.prog W 0 _ _ m1 82 ((cs1.toList.drop (6 * 2)).take 2) = some z6 from hez 6 (by omega)) ez6.symm
          exact ⟨a1 _ _ r.1, a1 _ _ r.2⟩
        | 7, _, _ =>
          have r := rowF (o := 7 * 2) (show DataW.trod _ Tryd.prog W 0 _ _ m1 82 ((cs1.toList.drop (7 * 2)).take 2) = some z7 from hez 7 (by omega)) ez7.symm
          exact ⟨a1 _ _ r.1, a1 _ _ r.2⟩
end Go.Proofs.YtfffpemgfddehaaDoor
