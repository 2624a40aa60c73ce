import Derived.Test.YtfffpemgfddehaaDoorSmall
import Derived.Test.YtfffpemgfddehaaDoorFlatQ
namespace Go.Proofs.YtfffpemgfddehaaDoor
open Go.ChangeShapes Go.WideShapes Go.ChangeAt Go.RowKit

def highN (k : Int) : Int := if k = 1 then 7 else if k = 2 ∨ k = 6 then 3 else if k = 4 ∨ k = 5 ∨ k = 7 then 1000 else 0
def lowN (k : Int) : Int := if k = 7 then 1 else 0

/-- What is wrong with a statement: eN, aN, bN: has it no E, no A, no B? wE, wA, wB: what is wrong with them; lk: is its lock held? -/
def stErr (k n : Int) (eN : Bool) (wE ck : Int) (aN bN : Bool) (wA wB : Int) (ly ll : Nat) (d : Int) (lk : Bool) : Int :=
  if k < 1 ∨ 7 < k then 6
  else if n < lowN k ∨ highN k < n then 3
  else if ¬ (k = 1 ∨ k = 2) ∧ eN = false then 6
  else if ¬ (k = 3 ∨ k = 5) ∧ (ck ≠ 0 ∨ aN = false ∨ bN = false) then 6
  else if (¬ (3 ≤ k ∧ k ≤ 6) ∧ 0 < ly) ∨ (k ≠ 3 ∧ 0 < ll) then 6
  else if (k = 1 ∨ k = 2) ∧ wE ≠ 0 then wE
  else if (k = 3 ∨ k = 5) ∧ (ck < 1 ∨ 4 < ck) then 6
  else if (k = 3 ∨ k = 5) ∧ wA ≠ 0 then wA
  else if (k = 3 ∨ k = 5) ∧ wB ≠ 0 then wB
  else if (3 ≤ k ∧ k ≤ 6) ∧ 6 ≤ d then 2
  else if k = 6 ∧ lk = true then 10
  else 0

section
variable (n : Int) (eN : Bool) (wE ck : Int) (aN bN : Bool) (wA wB : Int) (ly ll : Nat) (d : Int) (lk : Bool)
theorem stErr_1 : stErr 1 n eN wE ck aN bN wA wB ly ll d lk = if n < 0 ∨ 7 < n then 3 else if ck ≠ 0 ∨ aN = false ∨ bN = false then 6 else if 0 < ly ∨ 0 < ll then 6 else wE := by
  simp [stErr, lowN, highN] <;> grind
theorem stErr_2 : stErr 2 n eN wE ck aN bN wA wB ly ll d lk = if n < 0 ∨ 3 < n then 3 else if ck ≠ 0 ∨ aN = false ∨ bN = false then 6 else if 0 < ly ∨ 0 < ll then 6 else wE := by
  simp [stErr, lowN, highN] <;> grind
theorem stErr_3 : stErr 3 n eN wE ck aN bN wA wB ly ll d lk = if n < 0 ∨ 0 < n then 3 else if eN = false then 6 else if ck < 1 ∨ 4 < ck then 6 else if wA ≠ 0 then wA else if wB ≠ 0 then wB else if 6 ≤ d then 2 else 0 := by
  simp [stErr, lowN, highN] <;> grind
theorem stErr_4 : stErr 4 n eN wE ck aN bN wA wB ly ll d lk = if n < 0 ∨ 1000 < n then 3 else if eN = false then 6 else if ck ≠ 0 ∨ aN = false ∨ bN = false then 6 else if 0 < ll then 6 else if 6 ≤ d then 2 else 0 := by
  simp [stErr, lowN, highN] <;> grind
theorem stErr_5 : stErr 5 n eN wE ck aN bN wA wB ly ll d lk = if n < 0 ∨ 1000 < n then 3 else if eN = false then 6 else if 0 < ll then 6 else if ck < 1 ∨ 4 < ck then 6 else if wA ≠ 0 then wA else if wB ≠ 0 then wB else if 6 ≤ d then 2 else 0 := by
  simp [stErr, lowN, highN] <;> grind
theorem stErr_6 : stErr 6 n eN wE ck aN bN wA wB ly ll d lk = if n < 0 ∨ 3 < n then 3 else if eN = false then 6 else if ck ≠ 0 ∨ aN = false ∨ bN = false then 6 else if 0 < ll then 6 else if 6 ≤ d then 2 else if lk = true then 10 else 0 := by
  simp [stErr, lowN, highN] <;> grind
theorem stErr_7 : stErr 7 n eN wE ck aN bN wA wB ly ll d lk = if n < 1 ∨ 1000 < n then 3 else if eN = false then 6 else if ck ≠ 0 ∨ aN = false ∨ bN = false then 6 else if 0 < ly ∨ 0 < ll then 6 else 0 := by
  simp [stErr, lowN, highN] <;> grind
end

/-- The two boxes and the two tables at the head of wrongStatement. -/
theorem heads (w : World) (x0 x1 x2 x3 x4 x5 x6 x7 x8 x9 x10 x11 x12 x13 x14 x15 : Value) (t1 t2 : Array Value) (a b : TypeId) :
    ∃ W, W = (((w.alloc (.cells #[x0, x1, x2, x3, x4, x5, x6, x7, x8, x9, x10, x11, x12, x13, x14, x15] 57)).alloc (.cells #[x0, x1, x2, x3, x4, x5, x6, x7, x8, x9, x10, x11, x12, x13] 34)).alloc (.cells t1 a)).alloc (.cells t2 b) ∧
    Below w.heap.size w W ∧ w.heap.size + 1 < W.heap.size ∧
    W.cell? ⟨w.heap.size, 14, none⟩ = some x14 ∧ W.cell? ⟨w.heap.size, 15, none⟩ = some x15 ∧
    W.cell? ⟨w.heap.size + 1, 0, none⟩ = some x0 ∧ W.cell? ⟨w.heap.size + 1, 1, none⟩ = some x1 ∧ W.cell? ⟨w.heap.size + 1, 2, none⟩ = some x2 ∧ W.cell? ⟨w.heap.size + 1, 3, none⟩ = some x3 ∧ W.cell? ⟨w.heap.size + 1, 4, none⟩ = some x4 ∧
    W.cell? ⟨w.heap.size + 1, 5, none⟩ = some x5 ∧ W.cell? ⟨w.heap.size + 1, 6, none⟩ = some x6 ∧ W.cell? ⟨w.heap.size + 1, 7, none⟩ = some x7 ∧ W.cell? ⟨w.heap.size + 1, 8, none⟩ = some x8 ∧ W.cell? ⟨w.heap.size + 1, 9, none⟩ = some x9 ∧
    W.cell? ⟨w.heap.size + 1, 10, none⟩ = some x10 ∧ W.cell? ⟨w.heap.size + 1, 11, none⟩ = some x11 ∧ W.cell? ⟨w.heap.size + 1, 12, none⟩ = some x12 ∧ W.cell? ⟨w.heap.size + 1, 13, none⟩ = some x13 := by
  refine ⟨_, rfl, ?_, by simp <;> omega, ?_⟩
  · exact ((((Below.refl _ _).alloc (Nat.le_refl _) _).alloc (by simp) _).alloc (by simp <;> omega) _).alloc (by simp <;> omega) _
  · refine ⟨?_, ?_, ?_, ?_, ?_, ?_, ?_, ?_, ?_, ?_, ?_, ?_, ?_, ?_, ?_, ?_⟩
    iterate 2
      · rw [World.cell?_alloc_past _ _ _ (by simp <;> omega), World.cell?_alloc_past _ _ _ (by simp <;> omega), World.cell?_alloc_past _ _ _ (by simp), World.cell?_alloc_at _ _ _ _ rfl]; rfl
    iterate 14
      · rw [World.cell?_alloc_past _ _ _ (by simp <;> omega), World.cell?_alloc_past _ _ _ (by simp), World.cell?_alloc_at _ _ _ _ (by simp)]; rfl
end Go.Proofs.YtfffpemgfddehaaDoor
