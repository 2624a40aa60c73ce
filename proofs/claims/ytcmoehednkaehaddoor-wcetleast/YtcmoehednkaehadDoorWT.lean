import Derived.Test.YtcmoehednkaehadDoorWP
import Derived.RangeFuncNested
import Derived.RangeFuncBound
import Derived.RangeFuncCalls
import Derived.RangeFuncLeaves
import Derived.Shelf.Abstract
import Derived.Shelf.RegionOpen
import Derived.OwnWalkIn
import Derived.TacticsInMore
import Derived.LoopNIn
import Derived.LoopIn
namespace Go.Proofs.YtcmoehednkaehadDoor
open Go.ChangeShapes Go.WideShapes Go.ChangeAt Go.RowKit Go.Shelf

/-- A number of an instruction. -/
abbrev At (l : List In) := { k : Nat // k < l.length }

/-- They come from the last one on. -/
def Dn (l : List In) (pre : List (At l)) : Prop := pre.map (fun x => x.1) = (List.range pre.length).map (fun i => l.length - 1 - i)

theorem Dn.nil (l : List In) : Dn l [] := rfl

theorem Dn.snoc {l : List In} {pre : List (At l)} {x : At l} (h : Dn l pre) (hx : x.1 = l.length - 1 - pre.length) : Dn l (pre ++ [x]) := by
  unfold Dn at *
  rw [List.map_append, h, List.length_append, List.length_singleton, List.range_succ, List.map_append]
  simp [hx]

theorem Dn.last {l : List In} {pre : List (At l)} {x : At l} (h : Dn l (pre ++ [x])) : Dn l pre ∧ x.1 = l.length - 1 - pre.length := by
  unfold Dn at *
  rw [List.map_append, List.length_append, List.length_singleton, List.range_succ, List.map_append] at h
  have := List.append_inj' h rfl
  exact ⟨this.1, by simpa using this.2⟩

def updR (R : Nat → Int) (k : Nat) (v : Int) : Nat → Int := fun j => if j = k then v else R j

/-- The numbers, when those have come. -/
def RF (l : List In) (pre : List (At l)) : Nat → Int := pre.foldl (fun R x => updR R x.1 (ruleI l R (clF l) x.1)) (fun _ => 0)

theorem RF_snoc (l : List In) (pre : List (At l)) (x : At l) : RF l (pre ++ [x]) = updR (RF l pre) x.1 (ruleI l (RF l pre) (clF l) x.1) := by simp [RF]

theorem RF_out (l : List In) (pre : List (At l)) {j : Nat} (hj : l.length ≤ j) : RF l pre j = 0 := by
  unfold RF
  have : ∀ (pre : List (At l)) (R : Nat → Int), R j = 0 → (pre.foldl (fun R x => updR R x.1 (ruleI l R (clF l) x.1)) R) j = 0 := by
    intro pre
    induction pre with
    | nil => intro R h; exact h
    | cons x r ih =>
      intro R h
      refine ih _ ?_
      show (if j = x.1 then _ else R j) = 0
      rw [if_neg (by have := x.2; omega)]
      exact h
  exact this pre _ rfl

theorem RF_rest {l : List In} : ∀ (d : Nat) (pre : List (At l)), pre.length = d → Dn l pre → d ≤ l.length → RF l pre = restAt l d
  | 0, pre, hd, _, _ => by
    rw [List.length_eq_zero_iff.1 hd]
    funext j
    rfl
  | d + 1, pre, hd, h, hl => by
    obtain ⟨ini, x, rfl⟩ : ∃ ini x, pre = ini ++ [x] := by
      rcases List.eq_nil_or_concat pre with h0 | ⟨a, b, h0⟩
      · rw [h0] at hd; simp at hd
      · exact ⟨a, b, by rw [h0]; simp⟩
    obtain ⟨h1, h2⟩ := h.last
    have hi : ini.length = d := by simpa using hd
    have ih := RF_rest d ini hi h1 (by omega)
    rw [RF_snoc, ih]
    funext j
    show (if j = x.1 then _ else _) = (if j = l.length - (d + 1) then _ else _)
    rw [hi] at h2
    by_cases e : j = x.1
    · subst e
      rw [if_pos rfl, if_pos (by omega)]
    · rw [if_neg e, if_neg (by omega)]

/-- What a round that goes on keeps. -/
def KpB (n₀ Bs : Nat) (v : Value) (A B : World) : Prop := Below n₀ A B ∧ (A.cell? ⟨Bs, 0, none⟩ = some v → B.cell? ⟨Bs, 0, none⟩ = some v)

theorem KpB.refl (n₀ Bs : Nat) (v : Value) (A : World) : KpB n₀ Bs v A A := ⟨Below.refl _ _, id⟩
theorem KpB.trans {n₀ Bs : Nat} {v : Value} {A B C : World} (h : KpB n₀ Bs v A B) (k : KpB n₀ Bs v B C) : KpB n₀ Bs v A C := ⟨h.1.trans k.1, fun e => k.2 (h.2 e)⟩
theorem KpB.put {n₀ Bs : Nat} {v : Value} {w : World} (hn : n₀ ≤ w.heap.size) (hB : Bs < w.heap.size) (W : World) (l : Nat) (o o' : Obj) (hl : w.heap.size ≤ l) (h : W.heap[l]? = some o) (hc : o.isCells = false) (hw : o.isWalk = false) : KpB n₀ Bs v W (W.putObj l o') := by
  refine ⟨belowK_b hn W l o o' hl h hc hw, fun e => ?_⟩
  have e2 : (W.putObj l o').heap[Bs]? = W.heap[Bs]? := World.putObj_heap_other (by omega)
  unfold World.cell? at *
  dsimp only at *
  rw [e2]
  exact e

def valAt (l : List In) (x : At l) : Value := (l.getD x.1 in0).val

def encB (l : List In) (x : At l) : Array Value := #[.int .i64 (x.1 : Int), valAt l x]

end Go.Proofs.YtcmoehednkaehadDoor
