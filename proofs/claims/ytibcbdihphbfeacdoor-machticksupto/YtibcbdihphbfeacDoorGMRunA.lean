import Derived.Test.YtibcbdihphbfeacDoorGMNewOk
namespace Go.Proofs.YtibcbdihphbfeacDoor
open Go.ChangeShapes Go.WideShapes Go.ChangeAt Go.RowKit
structure RB (w W : World) : Prop where
 bel : Below w.heap.size w W
 r6 : W.heap[w.heap.size]? = some (.cells #[.slice none 0 0, .slice none 0 0, .int .i64 0] 27 (0, 0))
 r7 : W.heap[w.heap.size + 1]? = some (.cells #[.int .i64 0, .int .i64 0] 30 (0, 0))
theorem RB.start (w : World) : RB w ((w.alloc (.cells #[.slice none 0 0, .slice none 0 0, .int .i64 0] 27)).alloc (.cells #[.int .i64 0, .int .i64 0] 30)) := by
 refine ⟨(below_new _ _).alloc (by simp) _, ?_, ?_⟩
 ·rw [Below.heap_alloc _ _ _ (by simp)]; exact heap_alloc_new _ _
 ·have := heap_alloc_new (w.alloc (.cells #[.slice none 0 0, .slice none 0 0, .int .i64 0] 27)) (.cells #[.int .i64 0, .int .i64 0] 30)
  simpa using this
theorem RB.grow {w W W' : World} (h : RB w W) (hb : Below W.heap.size W W') : RB w W' :=
 ⟨below_seq h.bel hb, (hb.block _ (Array.getElem?_eq_some_iff.1 h.r6).1).trans h.r6, (hb.block _ (Array.getElem?_eq_some_iff.1 h.r7).1).trans h.r7⟩
theorem RB.move {w W W' : World} {mb B : Nat} {l : List In} {iv ov : Value} {ins : List Int} {sp : Int} {s : MS} {sv pv sv' pv' : Value} (h : RB w W) (hm : MM W mb B l iv ov ins sp s sv pv) (hr : MR mb W W' sv pv sv' pv') (hlt : w.heap.size + 1 < mb) : RB w W' := by
 have hn := hm.nmb
 have hl := hm.lt
 have nb : ∀ k, k < mb → W'.heap[k]? = W.heap[k]? := fun k hk => hr.block k (by omega) (by omega) (fun e => by have := (hm.stk.lt k e.symm).1; omega) (fun e => by have := (hm.pts.lt k e.symm).1; omega)
 exact ⟨h.bel.trans ⟨hr.os, hr.tape, hr.output, hr.size, fun k hk => nb k (by omega)⟩, (nb _ (by omega)).trans h.r6, (nb _ (by omega)).trans h.r7⟩
def failV (c k : Int) : Value := .tuple #[.agg #[.slice none 0 0, .slice none 0 0, .int .i64 0], .agg #[.int .i64 c, .int .i64 k]]
theorem RB.tell {w W : World} (h : RB w W) (a0 a1 a2 c k : Value) :
  let W' := ((((W.setCell ⟨w.heap.size, 0, none⟩ a0).setCell ⟨w.heap.size, 1, none⟩ a1).setCell ⟨w.heap.size, 2, none⟩ a2).setCell ⟨w.heap.size + 1, 0, none⟩ c).setCell ⟨w.heap.size + 1, 1, none⟩ k
  W'.heap[w.heap.size]? = some (.cells #[a0, a1, a2] 27 (0, 0)) ∧ W'.heap[w.heap.size + 1]? = some (.cells #[c, k] 30 (0, 0)) ∧ Below w.heap.size w W' := by
 refine ⟨?_, ?_, ((((h.bel.setCell (Nat.le_refl _) _).setCell (Nat.le_refl _) _).setCell (Nat.le_refl _) _).setCell (by show w.heap.size ≤ w.heap.size + 1; omega) _).setCell (by show w.heap.size ≤ w.heap.size + 1; omega) _⟩
 ·rw [Below.heap_setCell _ _ _ _ (by show w.heap.size ≠ w.heap.size + 1; omega), Below.heap_setCell _ _ _ _ (by show w.heap.size ≠ w.heap.size + 1; omega), setCell_at (setCell_at (setCell_at h.r6))]
  rfl
 ·have h1 : (((W.setCell ⟨w.heap.size, 0, none⟩ a0).setCell ⟨w.heap.size, 1, none⟩ a1).setCell ⟨w.heap.size, 2, none⟩ a2).heap[w.heap.size + 1]? = some (.cells #[.int .i64 0, .int .i64 0] 30 (0, 0)) := by
   rw [Below.heap_setCell _ _ _ _ (by show w.heap.size + 1 ≠ w.heap.size; omega), Below.heap_setCell _ _ _ _ (by show w.heap.size + 1 ≠ w.heap.size; omega), Below.heap_setCell _ _ _ _ (by show w.heap.size + 1 ≠ w.heap.size; omega)]
   exact h.r7
  rw [setCell_at (setCell_at h1)]
  rfl
theorem RB.told {w W : World} (h : RB w W) (a0 a1 a2 c k : Value) (o : Obj) :
  let W' := (((((W.setCell ⟨w.heap.size, 0, none⟩ a0).setCell ⟨w.heap.size, 1, none⟩ a1).setCell ⟨w.heap.size, 2, none⟩ a2).setCell ⟨w.heap.size + 1, 0, none⟩ c).setCell ⟨w.heap.size + 1, 1, none⟩ k).alloc o
  W'.heap[w.heap.size]? = some (.cells #[a0, a1, a2] 27 (0, 0)) ∧ W'.heap[w.heap.size + 1]? = some (.cells #[c, k] 30 (0, 0)) ∧ Below w.heap.size w W' := by
 obtain ⟨t1, t2, t3⟩ := h.tell a0 a1 a2 c k
 exact ⟨(Below.heap_alloc _ _ _ (Array.getElem?_eq_some_iff.1 t1).1).trans t1, (Below.heap_alloc _ _ _ (Array.getElem?_eq_some_iff.1 t2).1).trans t2, t3.alloc t3.size _⟩
end Go.Proofs.YtibcbdihphbfeacDoor
