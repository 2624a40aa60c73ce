import Derived.Test.YtaeamhnjbgmfdaeDoorTO
namespace Go.Proofs.YtaeamhnjbgmfdaeDoor
open Go.ChangeShapes Go.WideShapes Go.ChangeAt Go.RowKit

theorem tNoTask' : (Tryd.prog.globals[0]?).map (·.type) = some 36 := by kernel_rfl

theorem vals_of_val {x : Ta} {y : Ta} (h : (DataW.agg [.lit (.string x.nm.data.toList), .lit (.int .i64 x.c), .lit (.int .i64 x.t), .lit (.int .i64 x.d), .lit (.int .i64 x.j), .lit (.int .i64 x.o), .lit (.int .i64 x.p)] : DataW Unit) = .agg [.lit (.string y.nm.data.toList), .lit (.int .i64 y.c), .lit (.int .i64 y.t), .lit (.int .i64 y.d), .lit (.int .i64 y.j), .lit (.int .i64 y.o), .lit (.int .i64 y.p)]) : x = y := by
  obtain ⟨⟨xn⟩, x1, x2, x3, x4, x5, x6⟩ := x
  obtain ⟨⟨yn⟩, y1, y2, y3, y4, y5, y6⟩ := y
  simp only [DataW.agg.injEq, List.cons.injEq, DataW.lit.injEq, Lit.string.injEq, Lit.int.injEq, true_and, and_true] at h
  obtain ⟨h0, rfl, rfl, rfl, rfl, rfl, rfl⟩ := h
  rw [Array.toList_inj.1 h0]

end Go.Proofs.YtaeamhnjbgmfdaeDoor
