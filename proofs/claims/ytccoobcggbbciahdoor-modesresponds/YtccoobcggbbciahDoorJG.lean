import Derived.Test.YtccoobcggbbciahDoorJB
import Derived.OwnWalk
namespace Go.Proofs.YtccoobcggbbciahDoor
open Go.ChangeShapes Go.WideShapes Go.ChangeAt Go.RowKit

theorem info3' : (Tryd.prog.info? 3).map (fun i => (i.zero, i.size, i.bytes)) = some (some (.int .i64 0), 1, 8) := by kernel_rfl

def zerosV (n : Nat) : List Value := (List.replicate n 0).map (fun z : Int => Value.int .i64 z)

theorem made_zeros (n : Nat) : madeCells (Value.int .i64 0).cells n = (zerosV n).toArray := by
  unfold madeCells zerosV
  apply Array.ext
  · simp
  · intro i h1 h2
    simp [Value.cells, Nat.mod_one]

theorem make_zeros (n : Nat) (hn : n ≤ 4194304) (W : World) : (Instr.makeSlice 28 (.int .i64 (n : Int)) (.int .i64 (n : Int))).run Tryd.prog W = .ok (.slice (some ⟨W.heap.size, 0, none⟩) n n) (W.alloc (.cells (zerosV n).toArray 3)) := by
  obtain ⟨i0, hi0, hz0, hz1, hz2⟩ := info_parts info3'
  have h := run_make (P := Tryd.prog) W 28 3 i0 _ Tryd.underlying28 hi0 hz0 .i64 .i64 (n : Int) (n : Int) (by omega) (by omega) (by rw [hz2]; omega) (by omega)
  rw [hz1, Nat.mul_one, Int.toNat_natCast, made_zeros] at h
  exact h

/-- When each task may come next. -/
def soonVs (l : List Ta) (past : List Co) : List Value := (List.range l.length).map (fun k : Nat => Value.int .i64 (soonOf l past (k : Int)))

theorem soonVs_nil (l : List Ta) : soonVs l [] = zerosV l.length := by
  unfold soonVs zerosV
  apply List.ext_getElem
  · simp
  · intro i h1 h2
    simp [soonOf, lastOf]

theorem soonVs_at {l : List Ta} {past : List Co} {k : Nat} (h : k < l.length) : (soonVs l past)[k]? = some (.int .i64 (soonOf l past (k : Int))) := by
  unfold soonVs
  simp [h]

theorem soonVs_set {l : List Ta} {past : List Co} {c : Co} {k : Nat} (hk : c.k = (k : Int)) : (soonVs l past).set k (.int .i64 (c.a + (l.getD k ta0).t)) = soonVs l (c :: past) := by
  apply List.ext_getElem
  · simp [soonVs]
  · intro i h1 h2
    simp only [soonVs, List.getElem_set, List.getElem_map, List.getElem_range, soonOf_cons, hk]
    by_cases e : k = i
    · subst e; simp
    · rw [if_neg e, if_neg (by omega)]

/-- What Legal holds while it goes. -/
structure LG (w wr : World) (M : Nat) (l : List Ta) (past : List Co) : Prop where
  fb : FB w wr w.heap.size
  row : wr.heap[M]? = some (.cells (soonVs l past).toArray 3 (0, 0))
  low : w.heap.size < M

theorem LG.grow {w wr wr' : World} {M : Nat} {l : List Ta} {past : List Co} (h : LG w wr M l past) (hb : Below wr.heap.size wr wr') : LG w wr' M l past :=
  ⟨h.fb.grow hb, (hb.block M (Array.getElem?_eq_some_iff.1 h.row).1).trans h.row, h.low⟩

theorem LG.set {w wr : World} {M : Nat} {l : List Ta} {past : List Co} {c : Co} {k : Nat} (h : LG w wr M l past) (hc : c.k = (k : Int)) : LG w (wr.setCell ⟨M, k, none⟩ (.int .i64 (c.a + (l.getD k ta0).t))) M l (c :: past) := by
  refine ⟨⟨h.fb.bel.setCell (by have := h.low; show _ ≤ M; omega) _, ?_, h.fb.low⟩, ?_, h.low⟩
  · rw [Below.heap_setCell _ _ _ _ (by have := h.low; show _ ≠ M; omega)]
    exact h.fb.res
  · rw [setCell_at h.row]
    congr 2
    rw [← soonVs_set hc]
    simp

theorem set_alloc2 {w9 : World} {g : Nat} {a b x y : Value} {o : Obj} (h : w9.heap[g]? = some (.cells #[x, y] 31 (0, 0))) : (((w9.setCell ⟨g, 0, none⟩ a).setCell ⟨g, 1, none⟩ b).alloc o).heap[g]? = some (.cells #[a, b] 31 (0, 0)) := by
  have h2 := set_two (a := a) (b := b) h
  rw [Below.heap_alloc _ _ _ (Array.getElem?_eq_some_iff.1 h2).1]
  exact h2

theorem legOne_4 {l : List Ta} {past : List Co} {c : Co} (h : within c.k 0 ((l.length : Int) - 1) = false) : legOne l past c = 4 := by
  unfold legOne; rw [if_pos]
  simp [within] at h
  omega

theorem legOne_3 {l : List Ta} {past : List Co} {c : Co} (h : within c.k 0 ((l.length : Int) - 1) = true) (h2 : within c.a 0 20000 = false) : legOne l past c = 3 := by
  simp [within] at h h2
  unfold legOne; rw [if_neg (by omega), if_pos (by omega)]

theorem legOne_12 {l : List Ta} {past : List Co} {c : Co} (h : within c.k 0 ((l.length : Int) - 1) = true) (h2 : within c.a 0 20000 = true) (h3 : c.a < nowOf past ∨ c.a < soonOf l past c.k) : legOne l past c = 12 := by
  simp [within] at h h2
  unfold legOne; rw [if_neg (by omega), if_neg (by omega), if_pos h3]

theorem legOne_0 {l : List Ta} {past : List Co} {c : Co} (h : within c.k 0 ((l.length : Int) - 1) = true) (h2 : within c.a 0 20000 = true) (h3 : ¬ (c.a < nowOf past ∨ c.a < soonOf l past c.k)) : legOne l past c = 0 := by
  simp [within] at h h2
  unfold legOne; rw [if_neg (by omega), if_neg (by omega), if_neg h3]

theorem rev_at {α : Type} {l : List α} {j : Nat} {x : α} (h : l[j]? = some x) : (l.take (j + 1)).reverse = x :: (l.take j).reverse := by
  rw [List.take_add_one, h]
  simp
end Go.Proofs.YtccoobcggbbciahDoor
