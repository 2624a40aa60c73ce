import Derived.Test.YtcmoehednkaehahGSNc
namespace Go.Proofs.Ytcmoehednkaehah
open Go.ChangeShapes Go.WideShapes Go.ChangeAt Go.RowKit

theorem DA.del {W0 W : World} {d : Dd} {o : Do} {base : Nat} {pr : Int} {lv : Value} {l : List Lj} {rv : Value} {runs : List Int} {x : Rs} {cnt : Nat} {D : DataW Unit} {ga : Nat} {a : Ac} (h : DA W0 W d o base pr lv l rv runs x cnt D ga a) {m : Nat} (hm : m < 4) (hl : x.hs.length = 4) :
    ∃ W' D', (∀ ty, (Builtin.delete_ #[56, 3] ty #[.map (some d.M), .int .i64 (m : Int)]).run Try.prog W = .ok (.tuple #[]) W') ∧ DA W0 W' d o base pr lv l rv runs { x with hs := x.hs.set m (-1) } cnt D' ga a := by
  obtain ⟨W', hrun, ho, hg⟩ := h.dw.v.map.drop law3 Try.underlying56 (Go.Maps.keyOf_int_mk Try.underlying3 (a := (m : Int)) (wf_small (by omega) (by omega))) 0
  refine ⟨W', _, fun ty => hrun, h.dw.mapT hg.grown ho (h.dw.v.spec.del hm hl), (hg.grown.block _ (heap_lt h.ab) ?_).trans h.ab, h.gb⟩
  have h1 := (h.dw.lo d.M (by simp [blks])).2
  have h2 := h.gb
  simp
  omega
end Go.Proofs.Ytcmoehednkaehah
