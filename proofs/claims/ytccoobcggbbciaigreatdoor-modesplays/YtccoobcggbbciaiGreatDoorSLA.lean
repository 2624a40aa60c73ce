import Derived.Test.YtccoobcggbbciaiGreatDoorRows
import Derived.WalkKit
import Derived.ProofKit
import Derived.OpenShut
import Derived.Handy
import Derived.Deep.QuietTactic
import Derived.BigQuiet
import Derived.Deep.RegionHeld3
import Derived.Laws.RangeAny
import Derived.Laws.RangeString
import Derived.Laws.MakeOwn
import Derived.OwnWalk
import Derived.Maps.AppendAt
import Derived.Deep.CutRange
import Derived.Test.YtccoobcggbbciaiGreatDoorJJ
namespace Go.Proofs.YtccoobcggbbciaiGreatDoor.S8
open Go.ChangeShapes Go.WideShapes Go.ChangeAt Go.RowKit

def _root_.Go.Proofs.YtccoobcggbbciaiGreatDoor.Jb.val (x : Jb) : Value := .agg #[.int .i64 x.k, .int .i64 x.a, .int .i64 x.c, .int .i64 x.d, .int .i64 x.p]

theorem _root_.Go.Proofs.YtccoobcggbbciaiGreatDoor.JbAt.below {w w' : World} {b o : Nat} {x : Jb} (h : JbAt w b o x) (hb : Below w.heap.size w w') : JbAt w' b o x :=
  ⟨below_cell hb h.1, below_cell hb h.2.1, below_cell hb h.2.2.1, below_cell hb h.2.2.2.1, below_cell hb h.2.2.2.2⟩

/-- An append that has room, as a step of a region. -/
theorem step_fits {P : Program} {ops : Array Oper} {o : Oper} {lst : List Value} {ds : List Deferred} {w : World} {K : Act → World → Prop} {Q : Exit → Act → World → Prop} {E : Prop} (hg : o.guard = none) (nd : Nat) (hnd : o.dst = some nd) (s x : Operand) (t : TypeId) (hop : o.op = Op.call { callee := Callee.builtin Builtin.append, args := #[s, x], argTypes := #[t, t] })
    (base : Nat) (e : TypeId) (i : TypeInfo) (size : Nat) (h1 : P.underlying t = some (.slice e)) (h2 : P.info? e = some i) (h4 : i.size = size)
    (g k cap : Nat) (xs : List Value) (hs : (Act.mk lst.toArray ds).eval s = .slice (some ⟨g, 0, none⟩) k cap) (hown : w.ownsRow base e size (.slice (some ⟨g, 0, none⟩) k cap) k xs) (ao : Option Addr) (m c : Nat) (news : List Value) (hx : (Act.mk lst.toArray ds).eval x = .slice ao m c) (hn : news.length = m * size)
    (hnone : ao = none → m = 0 ∧ c = 0) (hc : ∀ ad, ao = some ad → ∀ j u, news[j]? = some u → w.cell? (ad.add j) = some u) (h1c : ∀ u ∈ news, u.oneCell' = true) (b1 : k + m ≤ cap) (n' : Nat) (hn' : k + m = n') (ys : List Value) (hys : xs ++ news = ys)
    (hK : ∀ w', w'.ownsRow base e size (.slice (some ⟨g, 0, none⟩) n' cap) n' ys → w.grownBy w' (some g) → K ⟨(lst.set nd (.slice (some ⟨g, 0, none⟩) n' cap)).toArray, ds⟩ w') :
    if Region.wanted o (yielded ops (Act.mk lst.toArray ds).tmps) = true then Oper.wp P o ⟨lst.toArray, ds⟩ w K Q else E := by
  subst hn' hys
  have hw : Region.wanted o (yielded ops (Act.mk lst.toArray ds).tmps) = true := by simp [Region.wanted, hg]
  rw [if_pos hw]
  obtain ⟨w', hrun, ho, hgr⟩ : ∃ w', (Builtin.append_ #[t, t] o.type #[.slice (some ⟨g, 0, none⟩) k cap, .slice ao m c]).run P w = .ok (.slice (some ⟨g, 0, none⟩) (k + m) cap) w' ∧ w'.ownsRow base e size (.slice (some ⟨g, 0, none⟩) (k + m) cap) (k + m) (xs ++ news) ∧ w.grownBy w' (some g) := by
    cases ao with
    | some ad => exact run_append_fits w base t o.type e i size h1 h2 h4 g k cap xs hown ad m c news hn (hc ad rfl) h1c b1
    | none =>
      obtain ⟨rfl, rfl⟩ := hnone rfl
      have hnil : news = [] := List.eq_nil_of_length_eq_zero (by rw [hn]; omega)
      subst hnil
      exact ⟨w, run_append_owned_none w base t o.type e i size h1 h2 _ k xs hown, by simpa using hown, ⟨rfl, rfl, rfl, Nat.le_refl _, fun _ _ _ => rfl⟩⟩
  have hk2 := hK _ ho hgr
  have ep : Act.put ⟨lst.toArray, ds⟩ o.dst (.slice (some ⟨g, 0, none⟩) (k + m) cap) = ⟨(lst.set nd (.slice (some ⟨g, 0, none⟩) (k + m) cap)).toArray, ds⟩ := by rw [hnd]; simp [Act.put]
  rw [← ep] at hk2
  unfold Oper.wp
  simp [execOp, hop, resolve, invoke, builtin, hs, hx, hrun, Result.andThen]
  exact hk2

theorem lent_at {α : Type} {f : α → List Value} {sz : Nat} (hf : ∀ x, (f x).length = sz) {w : World} {l : List α} {m : α} {b o j k : Nat} {u : Value} (h : ∀ q u, ((l ++ [m, m, m]).flatMap f)[q]? = some u → w.cell? ⟨b, o + q, none⟩ = some u) (h1 : l.length ≤ j) (h2 : j < l.length + 3) (hk : k < sz) (hu : (f m)[k]? = some u) : w.cell? ⟨b, o + (j * sz + k), none⟩ = some u := by
  refine h _ _ ((flat_at f sz hf (l ++ [m, m, m]) j k m ?_ hk).trans hu)
  rw [List.getElem?_append_right h1]
  have : j - l.length = 0 ∨ j - l.length = 1 ∨ j - l.length = 2 := by omega
  rcases this with e | e | e <;> rw [e] <;> rfl

theorem below_setCells {N b : Nat} (hb : N ≤ b) : ∀ (l : List Value) (o : Nat) (w : World), Below N w (w.setCells b o l)
  | [], _, _ => Below.refl _ _
  | v :: r, o, w => by
    refine Below.trans ?_ (below_setCells hb r (o + 1) _)
    exact (Below.refl _ w).setCell (p := ⟨b, o, none⟩) hb v
end Go.Proofs.YtccoobcggbbciaiGreatDoor.S8
namespace Go.Proofs.YtccoobcggbbciaiGreatDoor.S8
open Go.ChangeShapes Go.WideShapes Go.ChangeAt Go.RowKit

theorem flatOneJb {l : List Jb} {u : Value} (h : u ∈ l.flatMap Jb.vals) : u.oneCell' = true := by
  obtain ⟨x, h⟩ := flat_mem h
  exact Jb.one h

def marksJb (m : Jb) : List Value := [.int .i64 m.k, .int .i64 m.a, .int .i64 m.c, .int .i64 m.d, .int .i64 m.p, .int .i64 m.k, .int .i64 m.a, .int .i64 m.c, .int .i64 m.d, .int .i64 m.p, .int .i64 m.k, .int .i64 m.a, .int .i64 m.c, .int .i64 m.d, .int .i64 m.p]

theorem marksJb_eq (m : Jb) : [m, m, m].flatMap Jb.vals = marksJb m := rfl

theorem lentOfJb {w : World} {B g : Nat} {l : List Jb} {m : Jb} (h : w.ownsRow B 63 5 (.slice (some ⟨g, 0, none⟩) (l.length + 3) (l.length + 3)) (l.length + 3) (l.flatMap Jb.vals ++ marksJb m)) : Lent Jb.vals w l m (.slice (some ⟨g, 0, none⟩) l.length (l.length + 3)) := by
  refine ⟨g, 0, l.length + 3, rfl, Nat.le_refl _, fun q u hq => ?_⟩
  rw [List.flatMap_append, marksJb_eq] at hq
  have hql := (List.getElem?_eq_some_iff.1 hq).1
  rw [List.length_append, flat_length Jb.vals 5 Jb.len] at hql
  have h9 : (marksJb m).length = 15 := rfl
  rw [Nat.zero_add]
  exact (h.cellAt q (by omega)).trans hq

/-- make, with room, as an equation. -/
theorem makeJb (W : World) (n g : Nat) (hn : n ≤ 100003) (hg : W.heap.size = g) : ∃ w1, (Instr.makeSlice 54 (.int .i64 0) (.int .i64 ((n : Int) + 3))).run Tryz.prog W = .ok (.slice (some ⟨g, 0, none⟩) 0 (n + 3)) w1 ∧ w1.ownsRow g 63 5 (.slice (some ⟨g, 0, none⟩) 0 (n + 3)) 0 [] ∧ Below g W w1 ∧ g < w1.heap.size := by
  subst hg
  obtain ⟨i0, hi0, hz0, hz1, hz2⟩ := info_parts infoJb
  obtain ⟨w1, hrun, hown, hgr⟩ := run_make_own (P := Tryz.prog) W W.heap.size 54 63 i0 _ 5 Tryz.underlying54 hi0 hz0 hz1 .i64 .i64 (n + 3) (by rw [hz2]; omega) (by unfold maxLen; omega) (Nat.le_refl _)
  exact ⟨w1, hrun, hown, (Below.refl _ W).grown hgr (Nat.le_refl _) (by intro k hk; cases hk), (hown.lt _ rfl).2⟩

theorem marksCellsJb (W : World) (m : Jb) (g : Nat) (hg : W.heap.size = g) (q : Nat) (u : Value) (hq : (marksJb m)[q]? = some u) : (W.alloc (.cells #[.int .i64 m.k, .int .i64 m.a, .int .i64 m.c, .int .i64 m.d, .int .i64 m.p, .int .i64 m.k, .int .i64 m.a, .int .i64 m.c, .int .i64 m.d, .int .i64 m.p, .int .i64 m.k, .int .i64 m.a, .int .i64 m.c, .int .i64 m.d, .int .i64 m.p] 63)).cell? ((⟨g, 0, none⟩ : Addr).add q) = some u := by
  subst hg
  rw [Addr.add_lit]
  have := (cells_of (l := marksJb m) (heap_alloc_new W (.cells #[.int .i64 m.k, .int .i64 m.a, .int .i64 m.c, .int .i64 m.d, .int .i64 m.p, .int .i64 m.k, .int .i64 m.a, .int .i64 m.c, .int .i64 m.d, .int .i64 m.p, .int .i64 m.k, .int .i64 m.a, .int .i64 m.c, .int .i64 m.d, .int .i64 m.p] 63))).1 q u hq
  simpa using this

theorem marksOneJb (m : Jb) : ∀ u ∈ marksJb m, u.oneCell' = true := by
  intro u hu
  rw [← marksJb_eq] at hu
  exact flatOneJb hu
end Go.Proofs.YtccoobcggbbciaiGreatDoor.S8
namespace Go.Proofs.YtccoobcggbbciaiGreatDoor.S8
open Go.ChangeShapes Go.WideShapes Go.ChangeAt Go.RowKit

theorem marks_cell (w : World) (m : Int) (j : Nat) (u : Value) (hj : [Value.int .i64 m, .int .i64 m, .int .i64 m][j]? = some u) : (w.alloc (.cells #[.int .i64 m, .int .i64 m, .int .i64 m] 3)).cell? ((⟨w.heap.size, 0, none⟩ : Addr).add j) = some u := by
  rw [Addr.add_lit]
  have := (cells_of (l := [_, _, _]) (heap_alloc_new w (.cells #[.int .i64 m, .int .i64 m, .int .i64 m] 3))).1 j u hj
  simpa using this

theorem lentOfN {w : World} {B g : Nat} {l : List Int} {m : Int} (h : w.ownsRow B 3 1 (.slice (some ⟨g, 0, none⟩) (l.length + 3) (l.length + 3)) (l.length + 3) (l.flatMap nuV ++ [.int .i64 m, .int .i64 m, .int .i64 m])) : Lent nuV w l m (.slice (some ⟨g, 0, none⟩) l.length (l.length + 3)) := by
  refine ⟨g, 0, l.length + 3, rfl, Nat.le_refl _, fun q u hq => ?_⟩
  rw [List.flatMap_append] at hq
  have hql := (List.getElem?_eq_some_iff.1 hq).1
  rw [List.length_append, flat_length nuV 1 nuV_len] at hql
  have h9 : ([m, m, m].flatMap nuV).length = 3 := rfl
  rw [Nat.zero_add]
  exact (h.cellAt q (by omega)).trans hq

theorem zero_cells1 (z : Value) (n : Nat) : ∀ u ∈ (Builtin.zeroCells #[z] n).toList, u = z := by
  intro u hu
  simp only [Builtin.zeroCells, Array.toList_map, List.mem_map] at hu
  obtain ⟨i, -, rfl⟩ := hu
  have : i % (#[z] : Array Value).size = 0 := by
    show i % 1 = 0
    omega
  rw [this]; rfl

theorem clear_one (w : World) (t e ty : TypeId) (z : Value) (ht : Tryz.prog.underlying t = some (.slice e)) (hv : ∀ w, (zeroValue e).run Tryz.prog w = .ok z w) (h1 : z.oneCell' = true) (b n c : Nat) (hn : 0 < n)
    (hc : ∀ j, j < n * 1 → (w.cell? ⟨b, 0 + j, none⟩).isSome = true) (hf : ∀ j, j < n * 1 → w.frozen? ⟨b, 0 + j, none⟩ = false) :
    ∃ l, (Builtin.clear_ #[t] ty #[.slice (some ⟨b, 0, none⟩) n c]).run Tryz.prog w = .ok (.tuple #[]) (w.setCells b 0 l) := by
  have hcell : z.cells = #[z] := by
    cases z <;> first | rfl | (simp [Value.oneCell'] at h1)
  have hlen : (Builtin.zeroCells #[z] n).toList.length = n * 1 := by simp [Builtin.zeroCells]
  have hst := run_storeCells_cells (P := Tryz.prog) b 0 (Builtin.zeroCells #[z] n).toList 0 w (by rw [hlen]; simpa using hc) (by rw [hlen]; simpa using hf) (by intro v hv'; rw [zero_cells1 z n v hv']; exact h1)
  refine ⟨(Builtin.zeroCells #[z] n).toList, ?_⟩
  obtain ⟨m, rfl⟩ : ∃ m, n = m + 1 := ⟨n - 1, by omega⟩
  simp only [Nat.add_zero] at hst
  simp [Builtin.clear_, run_underlying ht, hv, hcell, hst]
end Go.Proofs.YtccoobcggbbciaiGreatDoor.S8
namespace Go.Proofs.YtccoobcggbbciaiGreatDoor.S8
open Go.ChangeShapes Go.WideShapes Go.ChangeAt Go.RowKit

/- Who is late. -/
def isLate (R : Nat) (x : Jb) (e : Int) : Prop := x.d < e ∨ (e < 0 ∧ x.d ≤ (R : Int))

abbrev lateDec (R : Nat) (x : Jb) (e : Int) : Decidable (isLate R x e) := by unfold isLate; exact inferInstance

def lateFrom (R : Nat) : List Jb → List Int → Nat → List Int
  | x :: js, e :: es, i => if x.d < e ∨ (e < 0 ∧ x.d ≤ (R : Int)) then (i : Int) :: lateFrom R js es (i + 1) else lateFrom R js es (i + 1)
  | _, _, _ => []

def lateF (l : List Jb) (R : Nat) (es : List Int) : (Int × Int) × List Int := if es.length ≠ l.length then ((2, 0), []) else ((0, 0), lateFrom R l es 0)

theorem lateFrom_len (R : Nat) : ∀ (l : List Jb) (es : List Int) (i : Nat), (lateFrom R l es i).length ≤ l.length
  | [], _, _ => by simp [lateFrom]
  | x :: l, [], _ => by simp [lateFrom]
  | x :: l, e :: es, i => by
    have := lateFrom_len R l es (i + 1)
    rw [lateFrom]
    split <;> simp <;> omega

theorem lateFrom_end (R : Nat) (es : List Int) (i : Nat) : lateFrom R [] es i = [] := by cases es <;> rfl

theorem nums_nil (w : World) (B : Nat) : w.ownsRow B 3 1 (.slice none 0 0) ([] : List Int).length (([] : List Int).flatMap nuV) := ⟨rfl, .inl ⟨rfl, rfl⟩⟩

/-- What was played, in a box; a fault's block; a row of numbers of one's own. -/
structure LO (w wr : World) (pr pe : Value) (acc : List Int) (av : Value) : Prop where
  bel : Below w.heap.size w wr
  box : wr.heap[w.heap.size]? = some (.cells #[pr, pe] 41 (0, 0))
  res : wr.heap[w.heap.size + 1]? = some (.cells #[.int .i64 0, .int .i64 0] 30 (0, 0))
  row : wr.ownsRow (w.heap.size + 2) 3 1 av acc.length (acc.flatMap nuV)

theorem LO.grow {w wr wr' : World} {pr pe : Value} {acc : List Int} {av : Value} (h : LO w wr pr pe acc av) (hb : Below wr.heap.size wr wr') : LO w wr' pr pe acc av :=
  ⟨below_seq h.bel hb, (hb.block _ (Array.getElem?_eq_some_iff.1 h.box).1).trans h.box, (hb.block _ (Array.getElem?_eq_some_iff.1 h.res).1).trans h.res, ownsRow_below h.row hb⟩

theorem LO.start (w : World) (pr pe : Value) : LO w ((w.alloc (.cells #[pr, pe] 41)).alloc (.cells #[.int .i64 0, .int .i64 0] 30)) pr pe [] (.slice none 0 0) :=
  ⟨below_seq (below_new _ _) (below_new _ _), (Below.heap_alloc _ _ _ (by simp)).trans (heap_alloc_new _ _), by have := heap_alloc_new (w.alloc (.cells #[pr, pe] 41)) (.cells #[.int .i64 0, .int .i64 0] 30); simpa using this, nums_nil _ _⟩

/-- One number more. -/
theorem LO.push {w wr : World} {pr pe : Value} {acc : List Int} {av : Value} (h : LO w wr pr pe acc av) (x : Int) (hl : acc.length ≤ 100000) :
    ∃ ad c w4, (Builtin.append_ #[24, 24] 24 #[av, .slice (some ⟨wr.heap.size, 0, none⟩) 1 1]).run Tryz.prog (wr.alloc (.cells #[.int .i64 x] 3)) = .ok (.slice ad (acc.length + 1) c) w4 ∧ LO w w4 pr pe (acc ++ [x]) (.slice ad (acc.length + 1) c) := by
  obtain ⟨i0, hi0, hz0, hz1, hz2⟩ := info_parts info3
  have h1 := h.grow (below_new wr (.cells #[.int .i64 x] 3))
  have hlt := (Array.getElem?_eq_some_iff.1 h.res).1
  obtain ⟨v4, w4, hrun, ho4, hg4, -, hv4⟩ := run_append_own_at (P := Tryz.prog) (w := wr.alloc (.cells #[.int .i64 x] 3)) (w.heap.size + 2) 24 24 3 i0 _ 1 8 Tryz.underlying24 hi0 hz0 hz1 hz2 rfl (by decide) av acc.length (acc.flatMap nuV) h1.row ⟨wr.heap.size, 0, none⟩ 1 1 (nuV x) rfl (fun j u hj => by rw [Addr.add_lit]; have := (cells_of (l := nuV x) (heap_alloc_new wr (.cells #[.int .i64 x] 3))).1 j u hj; simpa using this) (fun u hu => by simp [nuV] at hu; subst hu; rfl) (by unfold maxLen; omega) (by omega) (by simp; omega)
  obtain ⟨ad, c, rfl⟩ := owns_value ho4
  have hne : ∀ k, k < w.heap.size + 2 → some k ≠ av.ownBlock := fun k hk e => by have := (h.row.lt k e.symm).1; omega
  have hold : ∀ k, k < wr.heap.size → some k ≠ av.ownBlock → w4.heap[k]? = wr.heap[k]? := fun k hk hn => (hg4.block k (by simp; omega) hn).trans (Below.heap_alloc _ _ _ hk)
  have hbel : Below (w.heap.size + 2) wr w4 := ((below_new wr _).mono (by omega)).grown hg4 (by simp; omega) (fun k hk => (h.row.lt k hk).1)
  refine ⟨ad, c, w4, hrun, h.bel.trans (hbel.mono (by omega)), (hold _ (by omega) (hne _ (by omega))).trans h.box, (hold _ hlt (hne _ (by omega))).trans h.res, ?_⟩
  rw [List.length_append, show (acc ++ [x]).flatMap nuV = acc.flatMap nuV ++ nuV x by simp]
  exact ho4

theorem rowOfN_own {w : World} {B : Nat} {cs : List Int} {v : Value} (h : w.ownsRow B 3 1 v cs.length (cs.flatMap nuV)) : RowSl nuV w cs v := by
  have h' := h
  obtain ⟨hl, ⟨h1, h2⟩ | ⟨g, cap, cur, he, hb, hg, hr⟩⟩ := h
  · subst h1
    have : cs = [] := by
      cases cs with
      | nil => rfl
      | cons x r => simp_all
    subst this
    exact RowSl.nil _ _
  · subst he
    refine ⟨_, cap, rfl, (fun e => by cases e), by omega, .inr ⟨g, 0, rfl, fun q u hq => ?_⟩⟩
    have hql := (List.getElem?_eq_some_iff.1 hq).1
    rw [flat_length nuV 1 nuV_len] at hql
    rw [Nat.zero_add]
    exact (h'.cellAt q (by omega)).trans hq

theorem LO.end2 {w wr : World} {pr pe : Value} {acc : List Int} {av : Value} (h : LO w wr pr pe acc av) (a b : Value) : ((wr.setCell ⟨w.heap.size + 1, 0, none⟩ a).setCell ⟨w.heap.size + 1, 1, none⟩ b).ownsRow (w.heap.size + 2) 3 1 av acc.length (acc.flatMap nuV) ∧ Below w.heap.size w ((wr.setCell ⟨w.heap.size + 1, 0, none⟩ a).setCell ⟨w.heap.size + 1, 1, none⟩ b) := by
  refine ⟨ownsRow_keep2 h.row (fun q hq => ?_), (h.bel.setCell (by simp) _).setCell (by simp) _⟩
  have hq1 := (h.row.lt q hq).1
  rw [Below.heap_setCell _ _ _ _ (by show q ≠ w.heap.size + 1; omega), Below.heap_setCell _ _ _ _ (by show q ≠ w.heap.size + 1; omega)]

theorem lateFrom_at {R : Nat} {l : List Jb} {es : List Int} {j : Nat} {x : Jb} {e : Int} (h : l.drop j = x :: l.drop (j + 1)) (h' : es.drop j = e :: es.drop (j + 1)) : lateFrom R (l.drop j) (es.drop j) j = if x.d < e ∨ (e < 0 ∧ x.d ≤ (R : Int)) then (j : Int) :: lateFrom R (l.drop (j + 1)) (es.drop (j + 1)) (j + 1) else lateFrom R (l.drop (j + 1)) (es.drop (j + 1)) (j + 1) := by
  rw [h, h', lateFrom]
end Go.Proofs.YtccoobcggbbciaiGreatDoor.S8
