import Derived.Test.YtibcbdihphbfeacDoorGRes
import Derived.Test.YtibcbdihphbfeacDoorGSSy
namespace Go.Proofs.YtibcbdihphbfeacDoor
open Go.ChangeShapes Go.WideShapes Go.ChangeAt Go.RowKit
def Phase (_ : Nat) : Prop := True
theorem cell_reset {W : World} {p q : Addr} {v : Value} (h : W.cell? p = some v) : (W.setCell p v).cell? q = W.cell? q := by
 by_cases e : p = q
 ·subst e
  rw [h]
  exact World.cell?_setCell_same' W p v (by rw [h]; rfl)
 ·exact World.cell?_setCell_other W p q v e
theorem RB.cells {w W : World} (h : RB w W) (a0 a1 a2 : Value) (o : Obj) {p : Addr} {v : Value} (hp : W.cell? p = some v) (hne : p.block ≠ w.heap.size) :
  ((((((W.setCell ⟨w.heap.size, 0, none⟩ a0).setCell ⟨w.heap.size, 1, none⟩ a1).setCell ⟨w.heap.size, 2, none⟩ a2).setCell ⟨w.heap.size + 1, 0, none⟩ (.int .i64 0)).setCell ⟨w.heap.size + 1, 1, none⟩ (.int .i64 0)).alloc o).cell? p = some v := by
 obtain ⟨d1, -, -⟩ := cells_of (l := [_, _]) h.r7
 have d10 := d1 0 _ rfl
 have d11 := d1 1 _ rfl
 have far : ∀ (j : Nat) (W' : World) (u : Value) (x : Addr), x.block ≠ w.heap.size → (W'.setCell ⟨w.heap.size, j, none⟩ u).cell? x = W'.cell? x := fun j W' u x hx => World.cell?_setCell_far W' _ x u (Ne.symm hx)
 refine below_cell (below_new _ _) ?_
 have n1 : (⟨w.heap.size + 1, 0, none⟩ : Addr).block ≠ w.heap.size := by show w.heap.size + 1 ≠ w.heap.size; omega
 have n2 : (⟨w.heap.size + 1, 1, none⟩ : Addr).block ≠ w.heap.size := by show w.heap.size + 1 ≠ w.heap.size; omega
 have e1 : (((W.setCell ⟨w.heap.size, 0, none⟩ a0).setCell ⟨w.heap.size, 1, none⟩ a1).setCell ⟨w.heap.size, 2, none⟩ a2).cell? ⟨w.heap.size + 1, 0, none⟩ = some (.int .i64 0) := by
  rw [far _ _ _ _ n1, far _ _ _ _ n1, far _ _ _ _ n1]; exact d10
 have e2 : (((W.setCell ⟨w.heap.size, 0, none⟩ a0).setCell ⟨w.heap.size, 1, none⟩ a1).setCell ⟨w.heap.size, 2, none⟩ a2).cell? ⟨w.heap.size + 1, 1, none⟩ = some (.int .i64 0) := by
  rw [far _ _ _ _ n2, far _ _ _ _ n2, far _ _ _ _ n2]; exact d11
 rw [cell_reset (by rw [cell_reset e1]; exact e2), cell_reset e1, far _ _ _ _ hne, far _ _ _ _ hne, far _ _ _ _ hne]
 exact hp
theorem RB.cellAt {w W : World} (h : RB w W) {i : Nat} {z : Int} (hc : W.cell? ⟨w.heap.size, i, none⟩ = some (.int .i64 z)) : i = 2 := by
 obtain ⟨d1, -, -⟩ := cells_of (l := [_, _, _]) h.r6
 have d0 := d1 0 _ rfl
 have d2 := d1 1 _ rfl
 by_cases e0 : i = 0
 ·subst e0; rw [d0] at hc; cases hc
 by_cases e1 : i = 1
 ·subst e1; rw [d2] at hc; cases hc
 by_cases e2 : i = 2
 ·exact e2
 ·have : W.cell? ⟨w.heap.size, i, none⟩ = none := by
   unfold World.cell?
   rw [h.r6]
   simp
   omega
  rw [this] at hc; cases hc
end Go.Proofs.YtibcbdihphbfeacDoor
