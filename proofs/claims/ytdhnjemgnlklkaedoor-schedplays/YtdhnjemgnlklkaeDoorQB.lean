import Derived.Test.YtdhnjemgnlklkaeDoorPV
import Derived.Maps.OwnOps
import Derived.Maps.Views
import Derived.Maps.Keyed
namespace Go.Proofs.YtdhnjemgnlklkaeDoor
open Go.ChangeShapes Go.WideShapes Go.ChangeAt Go.RowKit

theorem law3 : Go.Maps.Keyed Tryd.prog 3 := Go.Maps.int_keyed Tryd.underlying3
theorem zero3 (w : World) : (zeroValue 3).run Tryd.prog w = .ok (.int .i64 0) w := by kernel_rfl

/-- A map of numbers to numbers. -/
def MapW (W : World) (b cnt : Nat) (left : List Int) : Prop := ∃ D : DataW Unit, W.ownsMap Tryd.prog 3 (plainElem Tryd.prog 3) b cnt D ∧ Go.Maps.IsMap D ∧ ∀ i : Nat, i ≤ 1000000 → D.atKey (.int .i64 (i : Int)) (.lit (.int .i64 0)) = .lit (.int .i64 (L left i))

theorem wfI {z : Int} (h : -1000000000 ≤ z) (h' : z ≤ 1000000000) : (Lit.int .i64 z).wf = true := by
  have h1 : IntKind.i64.min = -9223372036854775808 := rfl
  have h2 : IntKind.i64.max = 9223372036854775807 := rfl
  simp [Lit.wf, h1, h2]
  omega

theorem MapW.start (w : World) : MapW (w.alloc (.map #[] 0)) w.heap.size 0 [] :=
  ⟨.map [], World.ownsMap_made _ _ _ _, ⟨[], rfl⟩, fun _ _ => rfl⟩

theorem MapW.kept {W W' : World} {b cnt : Nat} {left : List Int} {row : Option Nat} (h : MapW W b cnt left) (hg : W.grownBy W' row) (hne : some b ≠ row) : MapW W' b cnt left := by
  obtain ⟨D, h1, h2, h3⟩ := h
  exact ⟨D, h1.kept hg hne, h2, h3⟩

theorem MapW.lt {W : World} {b cnt : Nat} {left : List Int} (h : MapW W b cnt left) : b < W.heap.size := by
  obtain ⟨D, h1, -⟩ := h
  exact h1.lt

theorem MapW.get {W : World} {b cnt : Nat} {left : List Int} (h : MapW W b cnt left) (i : Nat) (hi : i ≤ 1000000) : (Instr.lookup 93 (.map (some b)) (.int .i64 (i : Int)) false).run Tryd.prog W = .ok (.int .i64 (L left i)) W := by
  obtain ⟨D, h1, h2, h3⟩ := h
  obtain ⟨c, hrun, hat, -⟩ := h1.lookup_int law3 Tryd.underlying93 Tryd.underlying3 (zero3 _) (Go.Maps.keyOf_int_mk Tryd.underlying3 (a := (i : Int)) (wfI (by omega) (by omega)))
  rw [h3 i hi] at hat
  simp only [DataW.lit.injEq, Lit.int.injEq, true_and] at hat
  rw [hrun, ← hat]

theorem MapW.put {W : World} {b cnt : Nat} {left left' : List Int} (h : MapW W b cnt left) (i : Nat) (v : Int) (hi : i ≤ 1000000) (hv : -1000000000 ≤ v) (hv' : v ≤ 1000000000) (hc : cnt ≤ 1000000) (he : ∀ j, L left' j = if j = i then v else L left j) :
    ∃ W', (Instr.mapUpdate 93 (.map (some b)) (.int .i64 (i : Int)) (.int .i64 v)).run Tryd.prog W = .ok () W' ∧ MapW W' b (cnt + 1) left' ∧ W.grownBy W' (some b) := by
  obtain ⟨D, h1, h2, h3⟩ := h
  obtain ⟨W', hrun, ho, hg⟩ := h1.update law3 Tryd.underlying93 (by unfold maxLen; omega) (Go.Maps.keyOf_int_mk Tryd.underlying3 (a := (i : Int)) (wfI (by omega) (by omega))) (plainElem_int Tryd.underlying3 (wfI hv hv'))
  refine ⟨W', hrun, ⟨_, ho, ?_, fun j hj => ?_⟩, hg⟩
  · obtain ⟨es, rfl⟩ := h2
    exact ⟨_, rfl⟩
  · by_cases hji : j = i
    · rw [hji, Go.Maps.atKey_put_same (k := .int .i64 (i : Int)) h2 trivial, he, if_pos rfl]
    · rw [Go.Maps.atKey_put_other (by intro e; simp only [Lit.int.injEq, true_and] at e; omega), h3 j hj, he, if_neg hji]

theorem Always_any (w : World) (t : Int) : Calls Tryd.prog 49 #[.int .i64 t] w fun r w' => r = .returned (.bool true) ∧ w' = w := by
  go_enter Tryd.func49, Tryd.ntmps49
  go_wp2_with fail
  go_ret
  exact ⟨rfl, rfl⟩
end Go.Proofs.YtdhnjemgnlklkaeDoor
