import Derived.Test.YtgemadoieielcacDoorGBDeep
import Derived.Maps.OwnSet
import Derived.Maps.Views
namespace Go.Proofs.YtgemadoieielcacDoor
open Go.ChangeShapes Go.WideShapes Go.ChangeAt Go.RowKit

theorem infoI : (Tryd.prog.info? 3).map (fun i => (i.zero, i.size, i.bytes)) = some (some (.int .i64 0), 1, 8) := by kernel_rfl

/-- A map of numbers, as a function. -/
def HtAt (w : World) (mb N : Nat) (M : Int → Option Int) : Prop := ∃ D : DataW Unit, w.ownsMap Tryd.prog 3 (plainElem Tryd.prog 3) mb N D ∧ ∀ z : Int, Maps.has D (.int .i64 z) = (M z).isSome ∧ D.atKey (.int .i64 z) (.lit (.int .i64 0)) = .lit (.int .i64 ((M z).getD 0))

def setH (M : Int → Option Int) (z v : Int) : Int → Option Int := fun y => if y = z then some v else M y

theorem wf_int {z : Int} (h : -9223372036854775808 ≤ z ∧ z ≤ 9223372036854775807) : (Lit.int .i64 z).wf = true := by
  have h1 : IntKind.i64.min = -9223372036854775808 := by decide
  have h2 : IntKind.i64.max = 9223372036854775807 := by decide
  simp [Lit.wf, h1, h2]
  omega

theorem zero3 (w : World) : (zeroValue 3).run Tryd.prog w = .ok (.int .i64 0) w := by
  obtain ⟨i0, hi0, hz0, hz1, hz2⟩ := info_parts infoI
  simp [zeroValue, typeInfo, hi0, hz0]

theorem HtAt.made (w : World) : HtAt (w.alloc (.map #[] 0)) w.heap.size 0 (fun _ => none) :=
  ⟨.map [], World.ownsMap_made w _ _ _, fun _ => ⟨rfl, rfl⟩⟩

theorem HtAt.look {w : World} {mb N : Nat} {M : Int → Option Int} (h : HtAt w mb N M) {z : Int} (hz : -9223372036854775808 ≤ z ∧ z ≤ 9223372036854775807) :
    (Instr.lookup 105 (.map (some mb)) (.int .i64 z) true).run Tryd.prog w = .ok (.tuple #[.int .i64 ((M z).getD 0), .bool (M z).isSome]) w := by
  obtain ⟨D, ho, hM⟩ := h
  obtain ⟨v, ps, hrun, hv⟩ := ho.look_ok (t := 105) (e := 3) (Maps.int_keyed Tryd.underlying3) Tryd.underlying105 (zero3 w) (plainElem_int Tryd.underlying3 (wf_int (by omega))) (Maps.keyOf_int_mk Tryd.underlying3 (wf_int hz))
  rw [(hM z).2] at hv
  obtain ⟨c, rfl, hc, -⟩ := plainElem_int_inv Tryd.underlying3 hv
  simp only [Prod.mk.injEq, DataW.lit.injEq, Lit.int.injEq, true_and] at hc
  rw [(hM z).1] at hrun
  rw [hrun, ← hc.1]

theorem HtAt.look1 {w : World} {mb N : Nat} {M : Int → Option Int} (h : HtAt w mb N M) {z : Int} (hz : -9223372036854775808 ≤ z ∧ z ≤ 9223372036854775807) :
    (Instr.lookup 105 (.map (some mb)) (.int .i64 z) false).run Tryd.prog w = .ok (.int .i64 ((M z).getD 0)) w := by
  obtain ⟨D, ho, hM⟩ := h
  obtain ⟨c, hrun, hat, -⟩ := ho.lookup_int (t := 105) (e := 3) (Maps.int_keyed Tryd.underlying3) Tryd.underlying105 Tryd.underlying3 (zero3 w) (Maps.keyOf_int_mk Tryd.underlying3 (wf_int hz))
  rw [(hM z).2] at hat
  simp only [DataW.lit.injEq, Lit.int.injEq, true_and] at hat
  rw [hrun, hat]

theorem HtAt.set {w : World} {mb N : Nat} {M : Int → Option Int} (h : HtAt w mb N M) (hN : N < 1048576) {z v : Int} (hz : -9223372036854775808 ≤ z ∧ z ≤ 9223372036854775807) (hv : -9223372036854775808 ≤ v ∧ v ≤ 9223372036854775807) :
    ∃ w', (Instr.mapUpdate 105 (.map (some mb)) (.int .i64 z) (.int .i64 v)).run Tryd.prog w = .ok () w' ∧ HtAt w' mb (N + 1) (setH M z v) ∧ w.grownBy w' (some mb) := by
  obtain ⟨D, ho, hM⟩ := h
  obtain ⟨w', hrun, ho', hg⟩ := ho.update (t := 105) (e := 3) (Maps.int_keyed Tryd.underlying3) Tryd.underlying105 (by unfold maxLen; omega) (Maps.keyOf_int_mk Tryd.underlying3 (wf_int hz)) (plainElem_int Tryd.underlying3 (wf_int hv))
  refine ⟨w', hrun, ⟨_, ho', fun y => ?_⟩, hg⟩
  unfold setH
  by_cases hy : y = z
  · subst hy
    rw [if_pos rfl]
    exact ⟨Maps.has_put_same (k := .int .i64 y) ho.isMap trivial _, Maps.atKey_put_same (k := .int .i64 y) ho.isMap trivial _ _⟩
  · rw [if_neg hy]
    have hne : (Lit.int .i64 y) ≠ (Lit.int .i64 z) := by simpa using hy
    exact ⟨(Maps.has_put_other hne _).trans (hM y).1, (Maps.atKey_put_other hne _ _).trans (hM y).2⟩

theorem HtAt.below {w w' : World} {mb N : Nat} {M : Int → Option Int} (h : HtAt w mb N M) (hb : Below w.heap.size w w') : HtAt w' mb N M := by
  obtain ⟨D, ⟨es, clock, h1, r⟩, hM⟩ := h
  exact ⟨D, ⟨es, clock, (hb.block mb (Array.getElem?_eq_some_iff.1 h1).1).trans h1, r⟩, hM⟩

theorem HtAt.same {w w' : World} {mb N : Nat} {M : Int → Option Int} (h : HtAt w mb N M) (hb : w'.heap[mb]? = w.heap[mb]?) : HtAt w' mb N M := by
  obtain ⟨D, ⟨es, clock, h1, r⟩, hM⟩ := h
  exact ⟨D, ⟨es, clock, hb.trans h1, r⟩, hM⟩
end Go.Proofs.YtgemadoieielcacDoor
