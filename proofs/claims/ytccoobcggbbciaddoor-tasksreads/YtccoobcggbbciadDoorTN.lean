import Derived.Test.YtccoobcggbbciadDoorTO
namespace Go.Proofs.YtccoobcggbbciadDoor
open Go.ChangeShapes Go.WideShapes Go.ChangeAt Go.RowKit

theorem tNoTask' : (Tryd.prog.globals[1]?).map (·.type) = some 55 := by kernel_rfl

theorem vals_of_val {x : Ta} {y : Ta} (h : (DataW.agg [.lit (.string x.nm.data.toList), .lit (.int .i64 x.c), .lit (.int .i64 x.t), .lit (.int .i64 x.d), .lit (.int .i64 x.j), .lit (.int .i64 x.o), .lit (.int .i64 x.p)] : DataW Unit) = .agg [.lit (.string y.nm.data.toList), .lit (.int .i64 y.c), .lit (.int .i64 y.t), .lit (.int .i64 y.d), .lit (.int .i64 y.j), .lit (.int .i64 y.o), .lit (.int .i64 y.p)]) : x = y := by
  obtain ⟨⟨xn⟩, x1, x2, x3, x4, x5, x6⟩ := x
  obtain ⟨⟨yn⟩, y1, y2, y3, y4, y5, y6⟩ := y
  simp only [DataW.agg.injEq, List.cons.injEq, DataW.lit.injEq, Lit.string.injEq, Lit.int.injEq, true_and, and_true] at h
  obtain ⟨h0, rfl, rfl, rfl, rfl, rfl, rfl⟩ := h
  rw [Array.toList_inj.1 h0]

/-- What the listed variable holds. -/
theorem of_laid {W : World} (h : laidMetH Tryd.prog Rows.tasksChecksRow.laid W) : TaAt W 1 0 noT := by
  rw [MakeChecks.laidMetH_plain _ _ _ (by kernel_rfl)] at h
  obtain ⟨ps, ⟨g0, t0, cs0, f0, p0, q0, hg0, ht0, hv0, hd0, _, _⟩, _, _⟩ := h
  obtain rfl := Option.some.inj (gNoTask.symm.trans hg0)
  obtain rfl := Option.some.inj (tNoTask'.symm.trans ht0)
  have c0 : ∀ j, W.cell? ⟨1, j, none⟩ = cs0[j]? := World.var?_cell hg0 hv0
  have hlen : cs0.toList.length = 7 := by
    obtain ⟨xs, n1, -, -, hl, -⟩ := DataW.trod_struct Tryd.underlying55 hd0
    rw [hl, cells32]
  obtain ⟨x, hx, -, hy⟩ := ta_one hlen hd0
  have hxe : x = noT := vals_of_val (hy.symm.trans rfl)
  subst hxe
  have key : ∀ k u, noT.vals[k]? = some u → W.cell? ⟨1, k, none⟩ = some u := fun k u hu => by
    rw [c0, ← Array.getElem?_toList, hx]; exact hu
  exact ⟨key 0 _ rfl, key 1 _ rfl, key 2 _ rfl, key 3 _ rfl, key 4 _ rfl, key 5 _ rfl, key 6 _ rfl⟩
end Go.Proofs.YtccoobcggbbciadDoor
