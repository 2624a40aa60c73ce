import Derived.Test.YtkafihaajpifoagDoorRows
import Derived.WalkKit
import Derived.ProofKit
import Derived.OpenShut
import Derived.Handy
import Derived.Deep.QuietTactic
import Derived.BigQuiet
import Derived.Deep.RegionHeld3
import Derived.Laws.RangeAny
import Derived.Laws.RangeString
import Derived.Laws.MakeOwn
namespace Go.Proofs.YtkafihaajpifoagDoor
open Go.ChangeShapes Go.WideShapes Go.ChangeAt Go.RowKit

theorem below_cell {w w' : World} (hb : Below w.heap.size w w') {p : Addr} {v : Value} (h : w.cell? p = some v) : w'.cell? p = some v :=
  (hb.cell (World.block_lt_of_cell? w p h)).trans h

theorem below_seq {a b c : World} (h : Below a.heap.size a b) (h' : Below b.heap.size b c) : Below a.heap.size a c := h.trans (h'.mono h.size)

theorem below_new (w : World) (o : Obj) : Below w.heap.size w (w.alloc o) := (Below.refl _ w).alloc (Nat.le_refl _) o

/- Rows of things of so many cells. -/
theorem flat_length {α : Type} (f : α → List Value) (sz : Nat) (hf : ∀ x, (f x).length = sz) (l : List α) : (l.flatMap f).length = l.length * sz := by
  induction l with
  | nil => simp
  | cons x t ih => rw [List.flatMap_cons, List.length_append, ih, hf, List.length_cons, Nat.succ_mul]; omega

theorem flat_at {α : Type} (f : α → List Value) (sz : Nat) (hf : ∀ x, (f x).length = sz) : ∀ (l : List α) (j k : Nat) (x : α), l[j]? = some x → k < sz → (l.flatMap f)[j * sz + k]? = (f x)[k]?
  | [], j, k, x, h, _ => by simp at h
  | y :: t, 0, k, x, h, hk => by
    simp at h
    subst h
    rw [List.flatMap_cons, Nat.zero_mul, Nat.zero_add, List.getElem?_append_left (by rw [hf]; exact hk)]
  | y :: t, j + 1, k, x, h, hk => by
    have := flat_at f sz hf t j k x (by simpa using h) hk
    rw [List.flatMap_cons, Nat.succ_mul, List.getElem?_append_right (by rw [hf]; omega), hf, ← this]
    congr 1
    omega

theorem flat_mem {α : Type} {f : α → List Value} {l : List α} {u : Value} (h : u ∈ l.flatMap f) : ∃ x, u ∈ f x := by
  obtain ⟨x, _, h⟩ := List.mem_flatMap.1 h
  exact ⟨x, h⟩

/-- A slice of such things, wherever it lies. -/
def RowSl {α : Type} (f : α → List Value) (w : World) (l : List α) (v : Value) : Prop := ∃ ad c, v = .slice ad l.length c ∧ (ad = none → l.length = 0 ∧ c = 0) ∧ l.length ≤ c ∧ (l = [] ∨ ∃ b o, ad = some ⟨b, o, none⟩ ∧ ∀ q u, (l.flatMap f)[q]? = some u → w.cell? ⟨b, o + q, none⟩ = some u)

theorem RowSl.below {α : Type} {f : α → List Value} {w w' : World} {l : List α} {v : Value} (h : RowSl f w l v) (hb : Below w.heap.size w w') : RowSl f w' l v := by
  obtain ⟨ad, c, h1, h2, h4, h3⟩ := h
  refine ⟨ad, c, h1, h2, h4, h3.imp id ?_⟩
  rintro ⟨b, o, e, h⟩
  exact ⟨b, o, e, fun q u hq => below_cell hb (h q u hq)⟩

theorem RowSl.nil {α : Type} (f : α → List Value) (w : World) : RowSl f w [] (.slice none 0 0) := ⟨none, 0, rfl, fun _ => ⟨rfl, rfl⟩, Nat.le_refl _, .inl rfl⟩

/-- A list that was lent, and its room. -/
def Lent {α : Type} (f : α → List Value) (w : World) (l : List α) (m : α) (v : Value) : Prop := ∃ b o cap, v = .slice (some ⟨b, o, none⟩) l.length cap ∧ l.length + 3 ≤ cap ∧ ∀ q u, ((l ++ [m, m, m]).flatMap f)[q]? = some u → w.cell? ⟨b, o + q, none⟩ = some u

theorem Lent.below {α : Type} {f : α → List Value} {w w' : World} {l : List α} {m : α} {v : Value} (h : Lent f w l m v) (hb : Below w.heap.size w w') : Lent f w' l m v := by
  obtain ⟨b, o, cap, h1, h2, h3⟩ := h
  exact ⟨b, o, cap, h1, h2, fun q u hq => below_cell hb (h3 q u hq)⟩

theorem Lent.plain {α : Type} {f : α → List Value} {w : World} {l : List α} {m : α} {v : Value} (h : Lent f w l m v) : RowSl f w l v := by
  obtain ⟨b, o, cap, h1, h2, h3⟩ := h
  refine ⟨_, cap, h1, (fun e => by cases e), by omega, .inr ⟨b, o, rfl, fun q u hq => h3 q u ?_⟩⟩
  rw [List.flatMap_append, List.getElem?_append_left (List.getElem?_eq_some_iff.1 hq).1]
  exact hq

theorem RowSl.len {α : Type} {f : α → List Value} {w : World} {l : List α} {v : Value} (h : RowSl f w l v) : ∃ ad c, v = .slice ad l.length c := by
  obtain ⟨ad, c, h1, -⟩ := h
  exact ⟨ad, c, h1⟩

theorem cells_of {w : World} {g : Nat} {l : List Value} {T : TypeId} (h : w.heap[g]? = some (.cells l.toArray T (0, 0))) : (∀ j u, l[j]? = some u → w.cell? ⟨g, j, none⟩ = some u) ∧ (∀ j, w.frozen? ⟨g, j, none⟩ = false) ∧ g < w.heap.size := by
  refine ⟨fun j u hj => ?_, fun j => ?_, (Array.getElem?_eq_some_iff.1 h).1⟩
  · unfold World.cell?; rw [h]; simpa using hj
  · unfold World.frozen?; rw [h]; simp

theorem below_drewN' {w : World} {n : Nat} : Below w.heap.size w (w.drewN n) := ⟨rfl, rfl, rfl, Nat.le_refl _, fun _ _ => rfl⟩

/-- A part of a slice, from its beginning. -/
theorem RowSl.take {α : Type} {f : α → List Value} {w : World} {l : List α} {ad : Option Addr} {n c : Nat} (h : RowSl f w l (.slice ad n c)) (k : Nat) (hk : k ≤ l.length) : RowSl f w (l.take k) (.slice ad k c) := by
  obtain ⟨ad', c', e, h1, h2, h3⟩ := h
  cases e
  have hl : (l.take k).length = k := by simp; omega
  refine ⟨ad, c, by rw [hl], fun e => ⟨by rw [hl]; have := (h1 e).1; omega, (h1 e).2⟩, by omega, ?_⟩
  rcases h3 with h3 | ⟨b, o, e, h3⟩
  · subst h3; exact .inl (by simp)
  · refine .inr ⟨b, o, e, fun q u hq => h3 q u ?_⟩
    have e2 : l.flatMap f = (l.take k).flatMap f ++ (l.drop k).flatMap f := by rw [← List.flatMap_append, List.take_append_drop]
    rw [e2, List.getElem?_append_left (List.getElem?_eq_some_iff.1 hq).1]
    exact hq

theorem take_at {P : Program} {md : Region.Mode} {ops : Array Oper} {Q : Exit → Act → World → Prop} {S : World → Prop} {i n : Nat} {oi : Oper} {v : Value} {fuel : Nat} {listed : Array Bool} {l : List Value} {ds : List Deferred} {w : World}
    (hi : ops[i]? = some oi) (hd : oi.dst = some n) (hs : Region.noSelect ops = true) (hf : Region.free md ops listed i = true) (hr : (Region.ready md ops listed).contains i = true)
    (hQ : ∀ c a w, Q (.panic c) (a.put oi.dst v) w → Q (.panic c) a w) (hy : YieldsIf P ops S oi v ⟨l.toArray, ds⟩) (hS : S w)
    (h : wpAnyH P md ops Q S fuel (listed.setIfInBounds i true) ⟨(l.set n v).toArray, ds⟩ w) : wpAnyH P md ops Q S (fuel + 1) listed ⟨l.toArray, ds⟩ w := by
  refine wpAnyH_take hi hs hf hr hQ hy hS ?_
  have e : Act.put ⟨l.toArray, ds⟩ oi.dst v = ⟨(l.set n v).toArray, ds⟩ := by rw [hd]; simp [Act.put]
  rw [e]
  exact h

theorem setCell_at {w : World} {g i : Nat} {cs : Array Value} {t : TypeId} {fr : Nat × Nat} {u : Value} (h : w.heap[g]? = some (.cells cs t fr)) : (w.setCell ⟨g, i, none⟩ u).heap[g]? = some (.cells (cs.setIfInBounds i u) t fr) := by
  have hlt : g < w.heap.size := (Array.getElem?_eq_some_iff.1 h).1
  have h' : w.heap[g] = .cells cs t fr := by simpa [Array.getElem?_eq_getElem hlt] using h
  show (w.heap.modify g _)[g]? = _
  rw [Array.getElem?_eq_getElem (by simpa using hlt), Array.getElem_modify_self, h']
  rfl

theorem set_two {w9 : World} {g : Nat} {a b x y : Value} (h : w9.heap[g]? = some (.cells #[x, y] 25 (0, 0))) : ((w9.setCell ⟨g, 0, none⟩ a).setCell ⟨g, 1, none⟩ b).heap[g]? = some (.cells #[a, b] 25 (0, 0)) := by
  rw [setCell_at (setCell_at h)]
  rfl

/-- A block for a fault, and nothing else below it turned. -/
structure FB (w W : World) (g : Nat) : Prop where
  bel : Below w.heap.size w W
  res : W.heap[g]? = some (.cells #[.int .i64 0, .int .i64 0] 25 (0, 0))
  low : w.heap.size ≤ g

theorem FB.grow {w W W' : World} {g : Nat} (h : FB w W g) (hb : Below W.heap.size W W') : FB w W' g :=
  ⟨below_seq h.bel hb, (hb.block g (Array.getElem?_eq_some_iff.1 h.res).1).trans h.res, h.low⟩

theorem FB.start (w : World) : FB w (w.alloc (.cells #[.int .i64 0, .int .i64 0] 25)) w.heap.size := ⟨below_new _ _, heap_alloc_new _ _, Nat.le_refl _⟩

theorem FB.lt {w W : World} {g : Nat} (h : FB w W g) : g < W.heap.size := (Array.getElem?_eq_some_iff.1 h.res).1

theorem FB.set {w W : World} {g : Nat} (h : FB w W g) (a b : Value) : Below w.heap.size w ((W.setCell ⟨g, 0, none⟩ a).setCell ⟨g, 1, none⟩ b) := (h.bel.setCell h.low _).setCell h.low _

/-- An act. -/
structure Ac where
  d : Int
  n : Int

def Ac.vals (x : Ac) : List Value := [.int .i64 x.d, .int .i64 x.n]
def Ac.val (x : Ac) : Value := .agg #[.int .i64 x.d, .int .i64 x.n]
theorem Ac.len (x : Ac) : x.vals.length = 2 := rfl
theorem Ac.one {x : Ac} {u : Value} (h : u ∈ x.vals) : u.oneCell' = true := by
  simp only [Ac.vals, List.mem_cons, List.not_mem_nil, or_false] at h
  rcases h with rfl | rfl <;> rfl
def AcAt (w : World) (b o : Nat) (x : Ac) : Prop := w.cell? ⟨b, o, none⟩ = some (.int .i64 x.d) ∧ w.cell? ⟨b, o + 1, none⟩ = some (.int .i64 x.n)
theorem ac_at {w : World} {l : List Ac} {b o j : Nat} {x : Ac} (h : ∀ q u, (l.flatMap Ac.vals)[q]? = some u → w.cell? ⟨b, o + q, none⟩ = some u) (hj : l[j]? = some x) : AcAt w b (o + j * 2) x := by
  have key : ∀ k u, k < 2 → x.vals[k]? = some u → w.cell? ⟨b, o + j * 2 + k, none⟩ = some u := fun k u hk hu => by
    rw [Nat.add_assoc]
    exact h _ _ ((flat_at Ac.vals 2 Ac.len l j k x hj hk).trans hu)
  exact ⟨key 0 _ (by omega) rfl, key 1 _ (by omega) rfl⟩

/-- A number. -/
def nuV (z : Int) : List Value := [.int .i64 z]
theorem nuV_len (z : Int) : (nuV z).length = 1 := rfl
theorem nu_at {w : World} {l : List Int} {b o j : Nat} {z : Int} (h : ∀ q u, (l.flatMap nuV)[q]? = some u → w.cell? ⟨b, o + q, none⟩ = some u) (hj : l[j]? = some z) : w.cell? ⟨b, o + j, none⟩ = some (.int .i64 z) := by
  have := h _ _ ((flat_at nuV 1 nuV_len l j 0 z hj (by omega)).trans (rfl : (nuV z)[0]? = some (.int .i64 z)))
  simpa using this

/-- A job with locks, and where its acts lie. -/
structure Lj where
  a : Int
  p : Int
  acts : List Ac
  v : Value

def Lj.vals (x : Lj) : List Value := [.int .i64 x.a, .int .i64 x.p, x.v]
theorem Lj.len (x : Lj) : x.vals.length = 3 := rfl
def LjAt (w : World) (b o : Nat) (x : Lj) : Prop := w.cell? ⟨b, o, none⟩ = some (.int .i64 x.a) ∧ w.cell? ⟨b, o + 1, none⟩ = some (.int .i64 x.p) ∧ w.cell? ⟨b, o + 2, none⟩ = some x.v
theorem lj_at {w : World} {l : List Lj} {b o j : Nat} {x : Lj} (h : ∀ q u, (l.flatMap Lj.vals)[q]? = some u → w.cell? ⟨b, o + q, none⟩ = some u) (hj : l[j]? = some x) : LjAt w b (o + j * 3) x := by
  have key : ∀ k u, k < 3 → x.vals[k]? = some u → w.cell? ⟨b, o + j * 3 + k, none⟩ = some u := fun k u hk hu => by
    rw [Nat.add_assoc]
    exact h _ _ ((flat_at Lj.vals 3 Lj.len l j k x hj hk).trans hu)
  exact ⟨key 0 _ (by omega) rfl, key 1 _ (by omega) rfl, key 2 _ (by omega) rfl⟩

/-- A slice of jobs, and their acts. -/
def LkSl (w : World) (l : List Lj) (v : Value) : Prop := RowSl Lj.vals w l v ∧ ∀ x ∈ l, RowSl Ac.vals w x.acts x.v
theorem LkSl.below {w w' : World} {l : List Lj} {v : Value} (h : LkSl w l v) (hb : Below w.heap.size w w') : LkSl w' l v := ⟨h.1.below hb, fun x hx => (h.2 x hx).below hb⟩

theorem drop_at {α : Type} {l : List α} {k : Nat} (h : k < l.length) : ∃ x, l[k]? = some x ∧ l.drop k = x :: l.drop (k + 1) :=
  ⟨l[k], by simp [h], List.drop_eq_getElem_cons h⟩
/- What is wrong with acts. -/
def within (n a b : Int) : Bool := decide (a ≤ n) && decide (n ≤ b)
def doC (st : List Int) (a : Ac) : Int := if a.d = 1 then (if within a.n 1 1000 = true then 0 else 3) else if a.d = 2 then (if within a.n 0 3 = true then (if a.n ∈ st then 5 else 0) else 3) else if a.d = 3 then (if st.getLast? = some a.n then 0 else 10) else 6
def doS (st : List Int) (a : Ac) : List Int := if a.d = 2 then st ++ [a.n] else if a.d = 3 then st.dropLast else st
def chkA : List Ac → List Int → Nat → Int × Int
  | [], st, k => if st = [] then (0, 0) else (10, (k : Int))
  | a :: r, st, k => if doC st a = 0 then chkA r (doS st a) (k + 1) else (doC st a, (k : Int))
/-- P11.1, of acts. -/
def chkActs (l : List Ac) : Int × Int := if 200 < l.length then (2, 0) else chkA l [] 0
def lkOne (x : Lj) : Int := if (within x.a 0 20000 && within x.p 0 1000) = true then (chkActs x.acts).1 else 3
def chkL : List Lj → Nat → Int × Int
  | [], _ => (0, 0)
  | x :: r, k => if lkOne x = 0 then chkL r (k + 1) else (lkOne x, (k : Int))
/-- P11.1, of jobs. -/
def chkLk (l : List Lj) : Int × Int := if 100 < l.length then (2, 0) else chkL l 0

/-- An act that nothing is wrong with. -/
inductive Fine (st : List Int) (a : Ac) : List Int → Prop
  | work (h : a.d = 1) (h1 : 1 ≤ a.n) (h2 : a.n ≤ 1000) : Fine st a st
  | take (h : a.d = 2) (h1 : 0 ≤ a.n) (h2 : a.n ≤ 3) (h3 : a.n ∉ st) : Fine st a (st ++ [a.n])
  | give (h : a.d = 3) (st' : List Int) (h1 : st = st' ++ [a.n]) : Fine st a st'

theorem doC_fine {st : List Int} {a : Ac} (h : doC st a = 0) : Fine st a (doS st a) := by
  unfold doC at h
  unfold doS
  by_cases h1 : a.d = 1
  · rw [if_pos h1] at h
    by_cases h2 : within a.n 1 1000 = true
    · rw [if_neg (by omega), if_neg (by omega)]
      simp [within] at h2
      exact .work h1 h2.1 h2.2
    · rw [if_neg h2] at h; omega
  · rw [if_neg h1] at h
    by_cases h2 : a.d = 2
    · rw [if_pos h2] at h
      rw [if_pos h2]
      by_cases h3 : within a.n 0 3 = true
      · rw [if_pos h3] at h
        by_cases h4 : a.n ∈ st
        · rw [if_pos h4] at h; omega
        · simp [within] at h3
          exact .take h2 h3.1 h3.2 h4
      · rw [if_neg h3] at h; omega
    · rw [if_neg h2] at h
      rw [if_neg h2]
      by_cases h3 : a.d = 3
      · rw [if_pos h3] at h
        rw [if_pos h3]
        by_cases h4 : st.getLast? = some a.n
        · obtain ⟨ys, rfl⟩ := List.getLast?_eq_some_iff.1 h4
          rw [List.dropLast_concat]
          exact .give h3 ys rfl
        · rw [if_neg h4] at h; omega
      · rw [if_neg h3] at h; omega

theorem chkA_fine {a : Ac} {r : List Ac} {st : List Int} {k : Nat} (h : chkA (a :: r) st k = (0, 0)) : Fine st a (doS st a) ∧ chkA r (doS st a) (k + 1) = (0, 0) := by
  rw [chkA] at h
  by_cases h0 : doC st a = 0
  · rw [if_pos h0] at h
    exact ⟨doC_fine h0, h⟩
  · rw [if_neg h0] at h
    simp only [Prod.mk.injEq] at h
    exact absurd h.1 h0

theorem chkActs_fine {l : List Ac} (h : chkActs l = (0, 0)) : l.length ≤ 200 ∧ chkA l [] 0 = (0, 0) := by
  unfold chkActs at h
  by_cases h1 : 200 < l.length
  · rw [if_pos h1] at h; simp at h
  · rw [if_neg h1] at h
    exact ⟨by omega, h⟩

/-- The locks that are held are locks. -/
def Locks4 (st : List Int) : Prop := ∀ z ∈ st, 0 ≤ z ∧ z ≤ 3

theorem Fine.locks {st st' : List Int} {a : Ac} (h : Fine st a st') (hs : Locks4 st) : Locks4 st' := by
  rcases h with ⟨h, h1, h2⟩ | ⟨h, h1, h2, h3⟩ | ⟨h, _, h1⟩
  · exact hs
  · intro z hz
    rcases List.mem_append.1 hz with hz | hz
    · exact hs z hz
    · simp at hz; subst hz; exact ⟨h1, h2⟩
  · intro z hz
    exact hs z (by rw [h1]; exact List.mem_append_left _ hz)

/- Longest. -/
def lonF : List Ac → Nat → Int → Int → Int
  | [], _, _, b => b
  | a :: r, h, t, b => if a.d = 2 then lonF r (h + 1) t (max b t) else if a.d = 3 then (if h = 1 then lonF r 0 0 (max b 0) else lonF r (h - 1) t (max b t)) else (if h = 0 then lonF r 0 0 (max b 0) else lonF r h (t + a.n) (max b (t + a.n)))
def longF (l : List Ac) : Int := lonF l 0 0 0

/- Ceilings. -/
def topA (p m : Int) : List Ac → Int → Int
  | [], b => b
  | a :: r, b => topA p m r (if a.d = 2 ∧ a.n = m then max b p else b)
def topL (m : Int) : List Lj → Int → Int
  | [], b => b
  | x :: r, b => topL m r (topA x.p m x.acts b)
def topsF (l : List Lj) : List Int := [topL 0 l (-1), topL 1 l (-1), topL 2 l (-1), topL 3 l (-1)]

end Go.Proofs.YtkafihaajpifoagDoor
