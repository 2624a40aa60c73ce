import Derived.Test.YtekbkcgpjkecbalDoorSSB
import Derived.OwnWalk
namespace Go.Proofs.YtekbkcgpjkecbalDoor.S8
open Go.ChangeShapes Go.WideShapes Go.ChangeAt Go.RowKit

theorem flatOneJb {l : List Jb} {u : Value} (h : u ∈ l.flatMap Jb.vals) : u.oneCell' = true := by
  obtain ⟨x, h⟩ := flat_mem h
  exact Jb.one h

def marksJb (m : Jb) : List Value := [.int .i64 m.k, .int .i64 m.a, .int .i64 m.c, .int .i64 m.d, .int .i64 m.p, .int .i64 m.k, .int .i64 m.a, .int .i64 m.c, .int .i64 m.d, .int .i64 m.p, .int .i64 m.k, .int .i64 m.a, .int .i64 m.c, .int .i64 m.d, .int .i64 m.p]

theorem marksJb_eq (m : Jb) : [m, m, m].flatMap Jb.vals = marksJb m := rfl

theorem lentOfJb {w : World} {B g : Nat} {l : List Jb} {m : Jb} (h : w.ownsRow B 40 5 (.slice (some ⟨g, 0, none⟩) (l.length + 3) (l.length + 3)) (l.length + 3) (l.flatMap Jb.vals ++ marksJb m)) : Lent Jb.vals w l m (.slice (some ⟨g, 0, none⟩) l.length (l.length + 3)) := by
  refine ⟨g, 0, l.length + 3, rfl, Nat.le_refl _, fun q u hq => ?_⟩
  rw [List.flatMap_append, marksJb_eq] at hq
  have hql := (List.getElem?_eq_some_iff.1 hq).1
  rw [List.length_append, flat_length Jb.vals 5 Jb.len] at hql
  have h9 : (marksJb m).length = 15 := rfl
  rw [Nat.zero_add]
  exact (h.cellAt q (by omega)).trans hq

/-- make, with room, as an equation. -/
theorem makeJb (W : World) (n g : Nat) (hn : n ≤ 100003) (hg : W.heap.size = g) : ∃ w1, (Instr.makeSlice 35 (.int .i64 0) (.int .i64 ((n : Int) + 3))).run Tryd.prog W = .ok (.slice (some ⟨g, 0, none⟩) 0 (n + 3)) w1 ∧ w1.ownsRow g 40 5 (.slice (some ⟨g, 0, none⟩) 0 (n + 3)) 0 [] ∧ Below g W w1 ∧ g < w1.heap.size := by
  subst hg
  obtain ⟨i0, hi0, hz0, hz1, hz2⟩ := info_parts infoJb
  obtain ⟨w1, hrun, hown, hgr⟩ := run_make_own (P := Tryd.prog) W W.heap.size 35 40 i0 _ 5 Tryd.underlying35 hi0 hz0 hz1 .i64 .i64 (n + 3) (by rw [hz2]; omega) (by unfold maxLen; omega) (Nat.le_refl _)
  exact ⟨w1, hrun, hown, (Below.refl _ W).grown hgr (Nat.le_refl _) (by intro k hk; cases hk), (hown.lt _ rfl).2⟩

theorem marksCellsJb (W : World) (m : Jb) (g : Nat) (hg : W.heap.size = g) (q : Nat) (u : Value) (hq : (marksJb m)[q]? = some u) : (W.alloc (.cells #[.int .i64 m.k, .int .i64 m.a, .int .i64 m.c, .int .i64 m.d, .int .i64 m.p, .int .i64 m.k, .int .i64 m.a, .int .i64 m.c, .int .i64 m.d, .int .i64 m.p, .int .i64 m.k, .int .i64 m.a, .int .i64 m.c, .int .i64 m.d, .int .i64 m.p] 40)).cell? ((⟨g, 0, none⟩ : Addr).add q) = some u := by
  subst hg
  rw [Addr.add_lit]
  have := (cells_of (l := marksJb m) (heap_alloc_new W (.cells #[.int .i64 m.k, .int .i64 m.a, .int .i64 m.c, .int .i64 m.d, .int .i64 m.p, .int .i64 m.k, .int .i64 m.a, .int .i64 m.c, .int .i64 m.d, .int .i64 m.p, .int .i64 m.k, .int .i64 m.a, .int .i64 m.c, .int .i64 m.d, .int .i64 m.p] 40))).1 q u hq
  simpa using this

theorem marksOneJb (m : Jb) : ∀ u ∈ marksJb m, u.oneCell' = true := by
  intro u hu
  rw [← marksJb_eq] at hu
  exact flatOneJb hu
end Go.Proofs.YtekbkcgpjkecbalDoor.S8
