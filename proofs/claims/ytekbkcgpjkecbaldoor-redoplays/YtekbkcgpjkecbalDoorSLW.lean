import Derived.Test.YtekbkcgpjkecbalDoorSSL
import Derived.Test.YtekbkcgpjkecbalDoorSSN
namespace Go.Proofs.YtekbkcgpjkecbalDoor.S8
open Go.ChangeShapes Go.WideShapes Go.ChangeAt Go.RowKit

/- Who is late. -/
def isLate (R : Nat) (x : Jb) (e : Int) : Prop := x.d < e ∨ (e < 0 ∧ x.d ≤ (R : Int))

abbrev lateDec (R : Nat) (x : Jb) (e : Int) : Decidable (isLate R x e) := by unfold isLate; exact inferInstance

def lateFrom (R : Nat) : List Jb → List Int → Nat → List Int
  | x :: js, e :: es, i => if x.d < e ∨ (e < 0 ∧ x.d ≤ (R : Int)) then (i : Int) :: lateFrom R js es (i + 1) else lateFrom R js es (i + 1)
  | _, _, _ => []

def lateF (l : List Jb) (R : Nat) (es : List Int) : (Int × Int) × List Int := if es.length ≠ l.length then ((2, 0), []) else ((0, 0), lateFrom R l es 0)

theorem lateFrom_len (R : Nat) : ∀ (l : List Jb) (es : List Int) (i : Nat), (lateFrom R l es i).length ≤ l.length
  | [], _, _ => by simp [lateFrom]
  | x :: l, [], _ => by simp [lateFrom]
  | x :: l, e :: es, i => by
    have := lateFrom_len R l es (i + 1)
    rw [lateFrom]
    split <;> simp <;> omega

theorem lateFrom_end (R : Nat) (es : List Int) (i : Nat) : lateFrom R [] es i = [] := by cases es <;> rfl

theorem nums_nil (w : World) (B : Nat) : w.ownsRow B 3 1 (.slice none 0 0) ([] : List Int).length (([] : List Int).flatMap nuV) := ⟨rfl, .inl ⟨rfl, rfl⟩⟩

/-- What was played, in a box; a fault's block; a row of numbers of one's own. -/
structure LO (w wr : World) (pr pe : Value) (acc : List Int) (av : Value) : Prop where
  bel : Below w.heap.size w wr
  box : wr.heap[w.heap.size]? = some (.cells #[pr, pe] 43 (0, 0))
  res : wr.heap[w.heap.size + 1]? = some (.cells #[.int .i64 0, .int .i64 0] 30 (0, 0))
  row : wr.ownsRow (w.heap.size + 2) 3 1 av acc.length (acc.flatMap nuV)

theorem LO.grow {w wr wr' : World} {pr pe : Value} {acc : List Int} {av : Value} (h : LO w wr pr pe acc av) (hb : Below wr.heap.size wr wr') : LO w wr' pr pe acc av :=
  ⟨below_seq h.bel hb, (hb.block _ (Array.getElem?_eq_some_iff.1 h.box).1).trans h.box, (hb.block _ (Array.getElem?_eq_some_iff.1 h.res).1).trans h.res, ownsRow_below h.row hb⟩

theorem LO.start (w : World) (pr pe : Value) : LO w ((w.alloc (.cells #[pr, pe] 43)).alloc (.cells #[.int .i64 0, .int .i64 0] 30)) pr pe [] (.slice none 0 0) :=
  ⟨below_seq (below_new _ _) (below_new _ _), (Below.heap_alloc _ _ _ (by simp)).trans (heap_alloc_new _ _), by have := heap_alloc_new (w.alloc (.cells #[pr, pe] 43)) (.cells #[.int .i64 0, .int .i64 0] 30); simpa using this, nums_nil _ _⟩

/-- One number more. -/
theorem LO.push {w wr : World} {pr pe : Value} {acc : List Int} {av : Value} (h : LO w wr pr pe acc av) (x : Int) (hl : acc.length ≤ 100000) :
    ∃ ad c w4, (Builtin.append_ #[36, 36] 36 #[av, .slice (some ⟨wr.heap.size, 0, none⟩) 1 1]).run Tryd.prog (wr.alloc (.cells #[.int .i64 x] 3)) = .ok (.slice ad (acc.length + 1) c) w4 ∧ LO w w4 pr pe (acc ++ [x]) (.slice ad (acc.length + 1) c) := by
  obtain ⟨i0, hi0, hz0, hz1, hz2⟩ := info_parts info3
  have h1 := h.grow (below_new wr (.cells #[.int .i64 x] 3))
  have hlt := (Array.getElem?_eq_some_iff.1 h.res).1
  obtain ⟨v4, w4, hrun, ho4, hg4, -, hv4⟩ := run_append_own_at (P := Tryd.prog) (w := wr.alloc (.cells #[.int .i64 x] 3)) (w.heap.size + 2) 36 36 3 i0 _ 1 8 Tryd.underlying36 hi0 hz0 hz1 hz2 rfl (by decide) av acc.length (acc.flatMap nuV) h1.row ⟨wr.heap.size, 0, none⟩ 1 1 (nuV x) rfl (fun j u hj => by rw [Addr.add_lit]; have := (cells_of (l := nuV x) (heap_alloc_new wr (.cells #[.int .i64 x] 3))).1 j u hj; simpa using this) (fun u hu => by simp [nuV] at hu; subst hu; rfl) (by unfold maxLen; omega) (by omega) (by simp; omega)
  obtain ⟨ad, c, rfl⟩ := owns_value ho4
  have hne : ∀ k, k < w.heap.size + 2 → some k ≠ av.ownBlock := fun k hk e => by have := (h.row.lt k e.symm).1; omega
  have hold : ∀ k, k < wr.heap.size → some k ≠ av.ownBlock → w4.heap[k]? = wr.heap[k]? := fun k hk hn => (hg4.block k (by simp; omega) hn).trans (Below.heap_alloc _ _ _ hk)
  have hbel : Below (w.heap.size + 2) wr w4 := ((below_new wr _).mono (by omega)).grown hg4 (by simp; omega) (fun k hk => (h.row.lt k hk).1)
  refine ⟨ad, c, w4, hrun, h.bel.trans (hbel.mono (by omega)), (hold _ (by omega) (hne _ (by omega))).trans h.box, (hold _ hlt (hne _ (by omega))).trans h.res, ?_⟩
  rw [List.length_append, show (acc ++ [x]).flatMap nuV = acc.flatMap nuV ++ nuV x by simp]
  exact ho4

theorem rowOfN_own {w : World} {B : Nat} {cs : List Int} {v : Value} (h : w.ownsRow B 3 1 v cs.length (cs.flatMap nuV)) : RowSl nuV w cs v := by
  have h' := h
  obtain ⟨hl, ⟨h1, h2⟩ | ⟨g, cap, cur, he, hb, hg, hr⟩⟩ := h
  · subst h1
    have : cs = [] := by
      cases cs with
      | nil => rfl
      | cons x r => simp_all
    subst this
    exact RowSl.nil _ _
  · subst he
    refine ⟨_, cap, rfl, (fun e => by cases e), by omega, .inr ⟨g, 0, rfl, fun q u hq => ?_⟩⟩
    have hql := (List.getElem?_eq_some_iff.1 hq).1
    rw [flat_length nuV 1 nuV_len] at hql
    rw [Nat.zero_add]
    exact (h'.cellAt q (by omega)).trans hq

theorem LO.end2 {w wr : World} {pr pe : Value} {acc : List Int} {av : Value} (h : LO w wr pr pe acc av) (a b : Value) : ((wr.setCell ⟨w.heap.size + 1, 0, none⟩ a).setCell ⟨w.heap.size + 1, 1, none⟩ b).ownsRow (w.heap.size + 2) 3 1 av acc.length (acc.flatMap nuV) ∧ Below w.heap.size w ((wr.setCell ⟨w.heap.size + 1, 0, none⟩ a).setCell ⟨w.heap.size + 1, 1, none⟩ b) := by
  refine ⟨ownsRow_keep2 h.row (fun q hq => ?_), (h.bel.setCell (by simp) _).setCell (by simp) _⟩
  have hq1 := (h.row.lt q hq).1
  rw [Below.heap_setCell _ _ _ _ (by show q ≠ w.heap.size + 1; omega), Below.heap_setCell _ _ _ _ (by show q ≠ w.heap.size + 1; omega)]

theorem lateFrom_at {R : Nat} {l : List Jb} {es : List Int} {j : Nat} {x : Jb} {e : Int} (h : l.drop j = x :: l.drop (j + 1)) (h' : es.drop j = e :: es.drop (j + 1)) : lateFrom R (l.drop j) (es.drop j) j = if x.d < e ∨ (e < 0 ∧ x.d ≤ (R : Int)) then (j : Int) :: lateFrom R (l.drop (j + 1)) (es.drop (j + 1)) (j + 1) else lateFrom R (l.drop (j + 1)) (es.drop (j + 1)) (j + 1) := by
  rw [h, h', lateFrom]
end Go.Proofs.YtekbkcgpjkecbalDoor.S8
namespace Go.Proofs.YtekbkcgpjkecbalDoor.S8
open Go.ChangeShapes Go.WideShapes Go.ChangeAt Go.RowKit


end Go.Proofs.YtekbkcgpjkecbalDoor.S8
namespace Go.Proofs.YtekbkcgpjkecbalDoor.S8
open Go.ChangeShapes Go.WideShapes Go.ChangeAt Go.RowKit

/-- Where a walk stands. -/
def Phase (_ : Nat) : Prop := True

def noJ : Jb := ⟨-9, 0, 0, 0, 0⟩
end Go.Proofs.YtekbkcgpjkecbalDoor.S8
