import Derived.Test.YtcmoehednkaehahRows
import Derived.WalkKit
import Derived.ProofKit
import Derived.OpenShut
import Derived.Handy
import Derived.Deep.QuietTactic
import Derived.BigQuiet
import Derived.Deep.RegionHeld3
import Derived.Laws.RangeAny
import Derived.Laws.RangeString
import Derived.Laws.MakeOwn
import Derived.Maps.AppendAt
import Derived.OwnWalk
namespace Go.Proofs.Ytcmoehednkaehah
open Go.ChangeShapes Go.WideShapes Go.ChangeAt Go.RowKit

theorem below_cell {w w' : World} (hb : Below w.heap.size w w') {p : Addr} {v : Value} (h : w.cell? p = some v) : w'.cell? p = some v :=
  (hb.cell (World.block_lt_of_cell? w p h)).trans h

theorem below_seq {a b c : World} (h : Below a.heap.size a b) (h' : Below b.heap.size b c) : Below a.heap.size a c := h.trans (h'.mono h.size)

theorem below_new (w : World) (o : Obj) : Below w.heap.size w (w.alloc o) := (Below.refl _ w).alloc (Nat.le_refl _) o

/- Rows of things of so many cells. -/
theorem flat_length {α : Type} (f : α → List Value) (sz : Nat) (hf : ∀ x, (f x).length = sz) (l : List α) : (l.flatMap f).length = l.length * sz := by
  induction l with
  | nil => simp
  | cons x t ih => rw [List.flatMap_cons, List.length_append, ih, hf, List.length_cons, Nat.succ_mul]; omega

theorem flat_at {α : Type} (f : α → List Value) (sz : Nat) (hf : ∀ x, (f x).length = sz) : ∀ (l : List α) (j k : Nat) (x : α), l[j]? = some x → k < sz → (l.flatMap f)[j * sz + k]? = (f x)[k]?
  | [], j, k, x, h, _ => by simp at h
  | y :: t, 0, k, x, h, hk => by
    simp at h
    subst h
    rw [List.flatMap_cons, Nat.zero_mul, Nat.zero_add, List.getElem?_append_left (by rw [hf]; exact hk)]
  | y :: t, j + 1, k, x, h, hk => by
    have := flat_at f sz hf t j k x (by simpa using h) hk
    rw [List.flatMap_cons, Nat.succ_mul, List.getElem?_append_right (by rw [hf]; omega), hf, ← this]
    congr 1
    omega

theorem flat_mem {α : Type} {f : α → List Value} {l : List α} {u : Value} (h : u ∈ l.flatMap f) : ∃ x, u ∈ f x := by
  obtain ⟨x, _, h⟩ := List.mem_flatMap.1 h
  exact ⟨x, h⟩

/-- A slice of such things, wherever it lies. -/
def RowSl {α : Type} (f : α → List Value) (w : World) (l : List α) (v : Value) : Prop := ∃ ad c, v = .slice ad l.length c ∧ (ad = none → l.length = 0 ∧ c = 0) ∧ l.length ≤ c ∧ (l = [] ∨ ∃ b o, ad = some ⟨b, o, none⟩ ∧ ∀ q u, (l.flatMap f)[q]? = some u → w.cell? ⟨b, o + q, none⟩ = some u)

theorem RowSl.below {α : Type} {f : α → List Value} {w w' : World} {l : List α} {v : Value} (h : RowSl f w l v) (hb : Below w.heap.size w w') : RowSl f w' l v := by
  obtain ⟨ad, c, h1, h2, h4, h3⟩ := h
  refine ⟨ad, c, h1, h2, h4, h3.imp id ?_⟩
  rintro ⟨b, o, e, h⟩
  exact ⟨b, o, e, fun q u hq => below_cell hb (h q u hq)⟩

theorem RowSl.nil {α : Type} (f : α → List Value) (w : World) : RowSl f w [] (.slice none 0 0) := ⟨none, 0, rfl, fun _ => ⟨rfl, rfl⟩, Nat.le_refl _, .inl rfl⟩

/-- A list that was lent, and its room. -/
def Lent {α : Type} (f : α → List Value) (w : World) (l : List α) (m : α) (v : Value) : Prop := ∃ b o cap, v = .slice (some ⟨b, o, none⟩) l.length cap ∧ l.length + 3 ≤ cap ∧ ∀ q u, ((l ++ [m, m, m]).flatMap f)[q]? = some u → w.cell? ⟨b, o + q, none⟩ = some u

theorem Lent.below {α : Type} {f : α → List Value} {w w' : World} {l : List α} {m : α} {v : Value} (h : Lent f w l m v) (hb : Below w.heap.size w w') : Lent f w' l m v := by
  obtain ⟨b, o, cap, h1, h2, h3⟩ := h
  exact ⟨b, o, cap, h1, h2, fun q u hq => below_cell hb (h3 q u hq)⟩

theorem Lent.plain {α : Type} {f : α → List Value} {w : World} {l : List α} {m : α} {v : Value} (h : Lent f w l m v) : RowSl f w l v := by
  obtain ⟨b, o, cap, h1, h2, h3⟩ := h
  refine ⟨_, cap, h1, (fun e => by cases e), by omega, .inr ⟨b, o, rfl, fun q u hq => h3 q u ?_⟩⟩
  rw [List.flatMap_append, List.getElem?_append_left (List.getElem?_eq_some_iff.1 hq).1]
  exact hq

theorem RowSl.len {α : Type} {f : α → List Value} {w : World} {l : List α} {v : Value} (h : RowSl f w l v) : ∃ ad c, v = .slice ad l.length c := by
  obtain ⟨ad, c, h1, -⟩ := h
  exact ⟨ad, c, h1⟩

theorem cells_of {w : World} {g : Nat} {l : List Value} {T : TypeId} (h : w.heap[g]? = some (.cells l.toArray T (0, 0))) : (∀ j u, l[j]? = some u → w.cell? ⟨g, j, none⟩ = some u) ∧ (∀ j, w.frozen? ⟨g, j, none⟩ = false) ∧ g < w.heap.size := by
  refine ⟨fun j u hj => ?_, fun j => ?_, (Array.getElem?_eq_some_iff.1 h).1⟩
  · unfold World.cell?; rw [h]; simpa using hj
  · unfold World.frozen?; rw [h]; simp

theorem below_drewN' {w : World} {n : Nat} : Below w.heap.size w (w.drewN n) := ⟨rfl, rfl, rfl, Nat.le_refl _, fun _ _ => rfl⟩

/-- A part of a slice, from its beginning. -/
theorem RowSl.take {α : Type} {f : α → List Value} {w : World} {l : List α} {ad : Option Addr} {n c : Nat} (h : RowSl f w l (.slice ad n c)) (k : Nat) (hk : k ≤ l.length) : RowSl f w (l.take k) (.slice ad k c) := by
  obtain ⟨ad', c', e, h1, h2, h3⟩ := h
  cases e
  have hl : (l.take k).length = k := by simp; omega
  refine ⟨ad, c, by rw [hl], fun e => ⟨by rw [hl]; have := (h1 e).1; omega, (h1 e).2⟩, by omega, ?_⟩
  rcases h3 with h3 | ⟨b, o, e, h3⟩
  · subst h3; exact .inl (by simp)
  · refine .inr ⟨b, o, e, fun q u hq => h3 q u ?_⟩
    have e2 : l.flatMap f = (l.take k).flatMap f ++ (l.drop k).flatMap f := by rw [← List.flatMap_append, List.take_append_drop]
    rw [e2, List.getElem?_append_left (List.getElem?_eq_some_iff.1 hq).1]
    exact hq

theorem take_at {P : Program} {md : Region.Mode} {ops : Array Oper} {Q : Exit → Act → World → Prop} {S : World → Prop} {i n : Nat} {oi : Oper} {v : Value} {fuel : Nat} {listed : Array Bool} {l : List Value} {ds : List Deferred} {w : World}
    (hi : ops[i]? = some oi) (hd : oi.dst = some n) (hs : Region.noSelect ops = true) (hf : Region.free md ops listed i = true) (hr : (Region.ready md ops listed).contains i = true)
    (hQ : ∀ c a w, Q (.panic c) (a.put oi.dst v) w → Q (.panic c) a w) (hy : YieldsIf P ops S oi v ⟨l.toArray, ds⟩) (hS : S w)
    (h : wpAnyH P md ops Q S fuel (listed.setIfInBounds i true) ⟨(l.set n v).toArray, ds⟩ w) : wpAnyH P md ops Q S (fuel + 1) listed ⟨l.toArray, ds⟩ w := by
  refine wpAnyH_take hi hs hf hr hQ hy hS ?_
  have e : Act.put ⟨l.toArray, ds⟩ oi.dst v = ⟨(l.set n v).toArray, ds⟩ := by rw [hd]; simp [Act.put]
  rw [e]
  exact h

theorem setCell_at {w : World} {g i : Nat} {cs : Array Value} {t : TypeId} {fr : Nat × Nat} {u : Value} (h : w.heap[g]? = some (.cells cs t fr)) : (w.setCell ⟨g, i, none⟩ u).heap[g]? = some (.cells (cs.setIfInBounds i u) t fr) := by
  have hlt : g < w.heap.size := (Array.getElem?_eq_some_iff.1 h).1
  have h' : w.heap[g] = .cells cs t fr := by simpa [Array.getElem?_eq_getElem hlt] using h
  show (w.heap.modify g _)[g]? = _
  rw [Array.getElem?_eq_getElem (by simpa using hlt), Array.getElem_modify_self, h']
  rfl

theorem set_two {w9 : World} {g : Nat} {a b x y : Value} (h : w9.heap[g]? = some (.cells #[x, y] 31 (0, 0))) : ((w9.setCell ⟨g, 0, none⟩ a).setCell ⟨g, 1, none⟩ b).heap[g]? = some (.cells #[a, b] 31 (0, 0)) := by
  rw [setCell_at (setCell_at h)]
  rfl

/-- A block for a fault, and nothing else below it turned. -/
structure FB (w W : World) (g : Nat) : Prop where
  bel : Below w.heap.size w W
  res : W.heap[g]? = some (.cells #[.int .i64 0, .int .i64 0] 31 (0, 0))
  low : w.heap.size ≤ g

theorem FB.grow {w W W' : World} {g : Nat} (h : FB w W g) (hb : Below W.heap.size W W') : FB w W' g :=
  ⟨below_seq h.bel hb, (hb.block g (Array.getElem?_eq_some_iff.1 h.res).1).trans h.res, h.low⟩

theorem FB.start (w : World) : FB w (w.alloc (.cells #[.int .i64 0, .int .i64 0] 31)) w.heap.size := ⟨below_new _ _, heap_alloc_new _ _, Nat.le_refl _⟩

theorem FB.lt {w W : World} {g : Nat} (h : FB w W g) : g < W.heap.size := (Array.getElem?_eq_some_iff.1 h.res).1

theorem FB.set {w W : World} {g : Nat} (h : FB w W g) (a b : Value) : Below w.heap.size w ((W.setCell ⟨g, 0, none⟩ a).setCell ⟨g, 1, none⟩ b) := (h.bel.setCell h.low _).setCell h.low _

/-- An act. -/
structure Ac where
  d : Int
  n : Int

def Ac.vals (x : Ac) : List Value := [.int .i64 x.d, .int .i64 x.n]
def Ac.val (x : Ac) : Value := .agg #[.int .i64 x.d, .int .i64 x.n]
theorem Ac.len (x : Ac) : x.vals.length = 2 := rfl
theorem Ac.one {x : Ac} {u : Value} (h : u ∈ x.vals) : u.oneCell' = true := by
  simp only [Ac.vals, List.mem_cons, List.not_mem_nil, or_false] at h
  rcases h with rfl | rfl <;> rfl
def AcAt (w : World) (b o : Nat) (x : Ac) : Prop := w.cell? ⟨b, o, none⟩ = some (.int .i64 x.d) ∧ w.cell? ⟨b, o + 1, none⟩ = some (.int .i64 x.n)
theorem ac_at {w : World} {l : List Ac} {b o j : Nat} {x : Ac} (h : ∀ q u, (l.flatMap Ac.vals)[q]? = some u → w.cell? ⟨b, o + q, none⟩ = some u) (hj : l[j]? = some x) : AcAt w b (o + j * 2) x := by
  have key : ∀ k u, k < 2 → x.vals[k]? = some u → w.cell? ⟨b, o + j * 2 + k, none⟩ = some u := fun k u hk hu => by
    rw [Nat.add_assoc]
    exact h _ _ ((flat_at Ac.vals 2 Ac.len l j k x hj hk).trans hu)
  exact ⟨key 0 _ (by omega) rfl, key 1 _ (by omega) rfl⟩

/-- A number. -/
def nuV (z : Int) : List Value := [.int .i64 z]
theorem nuV_len (z : Int) : (nuV z).length = 1 := rfl
theorem nu_at {w : World} {l : List Int} {b o j : Nat} {z : Int} (h : ∀ q u, (l.flatMap nuV)[q]? = some u → w.cell? ⟨b, o + q, none⟩ = some u) (hj : l[j]? = some z) : w.cell? ⟨b, o + j, none⟩ = some (.int .i64 z) := by
  have := h _ _ ((flat_at nuV 1 nuV_len l j 0 z hj (by omega)).trans (rfl : (nuV z)[0]? = some (.int .i64 z)))
  simpa using this

/-- A job with locks, and where its acts lie. -/
structure Lj where
  a : Int
  p : Int
  acts : List Ac
  v : Value

def Lj.vals (x : Lj) : List Value := [.int .i64 x.a, .int .i64 x.p, x.v]
theorem Lj.len (x : Lj) : x.vals.length = 3 := rfl
def LjAt (w : World) (b o : Nat) (x : Lj) : Prop := w.cell? ⟨b, o, none⟩ = some (.int .i64 x.a) ∧ w.cell? ⟨b, o + 1, none⟩ = some (.int .i64 x.p) ∧ w.cell? ⟨b, o + 2, none⟩ = some x.v
theorem lj_at {w : World} {l : List Lj} {b o j : Nat} {x : Lj} (h : ∀ q u, (l.flatMap Lj.vals)[q]? = some u → w.cell? ⟨b, o + q, none⟩ = some u) (hj : l[j]? = some x) : LjAt w b (o + j * 3) x := by
  have key : ∀ k u, k < 3 → x.vals[k]? = some u → w.cell? ⟨b, o + j * 3 + k, none⟩ = some u := fun k u hk hu => by
    rw [Nat.add_assoc]
    exact h _ _ ((flat_at Lj.vals 3 Lj.len l j k x hj hk).trans hu)
  exact ⟨key 0 _ (by omega) rfl, key 1 _ (by omega) rfl, key 2 _ (by omega) rfl⟩

/-- A slice of jobs, and their acts. -/
def LkSl (w : World) (l : List Lj) (v : Value) : Prop := RowSl Lj.vals w l v ∧ ∀ x ∈ l, RowSl Ac.vals w x.acts x.v
theorem LkSl.below {w w' : World} {l : List Lj} {v : Value} (h : LkSl w l v) (hb : Below w.heap.size w w') : LkSl w' l v := ⟨h.1.below hb, fun x hx => (h.2 x hx).below hb⟩

theorem drop_at {α : Type} {l : List α} {k : Nat} (h : k < l.length) : ∃ x, l[k]? = some x ∧ l.drop k = x :: l.drop (k + 1) :=
  ⟨l[k], by simp [h], List.drop_eq_getElem_cons h⟩
/- What is wrong with acts. -/
def within (n a b : Int) : Bool := decide (a ≤ n) && decide (n ≤ b)
def doC (st : List Int) (a : Ac) : Int := if a.d = 1 then (if within a.n 1 1000 = true then 0 else 3) else if a.d = 2 then (if within a.n 0 3 = true then (if a.n ∈ st then 5 else 0) else 3) else if a.d = 3 then (if st.getLast? = some a.n then 0 else 10) else 6
def doS (st : List Int) (a : Ac) : List Int := if a.d = 2 then st ++ [a.n] else if a.d = 3 then st.dropLast else st
def chkA : List Ac → List Int → Nat → Int × Int
  | [], st, k => if st = [] then (0, 0) else (10, (k : Int))
  | a :: r, st, k => if doC st a = 0 then chkA r (doS st a) (k + 1) else (doC st a, (k : Int))
/-- P11.1, of acts. -/
def chkActs (l : List Ac) : Int × Int := if 200 < l.length then (2, 0) else chkA l [] 0
def lkOne (x : Lj) : Int := if (within x.a 0 20000 && within x.p 0 1000) = true then (chkActs x.acts).1 else 3
def chkL : List Lj → Nat → Int × Int
  | [], _ => (0, 0)
  | x :: r, k => if lkOne x = 0 then chkL r (k + 1) else (lkOne x, (k : Int))
/-- P11.1, of jobs. -/
def chkLk (l : List Lj) : Int × Int := if 100 < l.length then (2, 0) else chkL l 0

/-- An act that nothing is wrong with. -/
inductive Fine (st : List Int) (a : Ac) : List Int → Prop
  | work (h : a.d = 1) (h1 : 1 ≤ a.n) (h2 : a.n ≤ 1000) : Fine st a st
  | take (h : a.d = 2) (h1 : 0 ≤ a.n) (h2 : a.n ≤ 3) (h3 : a.n ∉ st) : Fine st a (st ++ [a.n])
  | give (h : a.d = 3) (st' : List Int) (h1 : st = st' ++ [a.n]) : Fine st a st'

theorem doC_fine {st : List Int} {a : Ac} (h : doC st a = 0) : Fine st a (doS st a) := by
  unfold doC at h
  unfold doS
  by_cases h1 : a.d = 1
  · rw [if_pos h1] at h
    by_cases h2 : within a.n 1 1000 = true
    · rw [if_neg (by omega), if_neg (by omega)]
      simp [within] at h2
      exact .work h1 h2.1 h2.2
    · rw [if_neg h2] at h; omega
  · rw [if_neg h1] at h
    by_cases h2 : a.d = 2
    · rw [if_pos h2] at h
      rw [if_pos h2]
      by_cases h3 : within a.n 0 3 = true
      · rw [if_pos h3] at h
        by_cases h4 : a.n ∈ st
        · rw [if_pos h4] at h; omega
        · simp [within] at h3
          exact .take h2 h3.1 h3.2 h4
      · rw [if_neg h3] at h; omega
    · rw [if_neg h2] at h
      rw [if_neg h2]
      by_cases h3 : a.d = 3
      · rw [if_pos h3] at h
        rw [if_pos h3]
        by_cases h4 : st.getLast? = some a.n
        · obtain ⟨ys, rfl⟩ := List.getLast?_eq_some_iff.1 h4
          rw [List.dropLast_concat]
          exact .give h3 ys rfl
        · rw [if_neg h4] at h; omega
      · rw [if_neg h3] at h; omega

theorem chkA_fine {a : Ac} {r : List Ac} {st : List Int} {k : Nat} (h : chkA (a :: r) st k = (0, 0)) : Fine st a (doS st a) ∧ chkA r (doS st a) (k + 1) = (0, 0) := by
  rw [chkA] at h
  by_cases h0 : doC st a = 0
  · rw [if_pos h0] at h
    exact ⟨doC_fine h0, h⟩
  · rw [if_neg h0] at h
    simp only [Prod.mk.injEq] at h
    exact absurd h.1 h0

theorem chkActs_fine {l : List Ac} (h : chkActs l = (0, 0)) : l.length ≤ 200 ∧ chkA l [] 0 = (0, 0) := by
  unfold chkActs at h
  by_cases h1 : 200 < l.length
  · rw [if_pos h1] at h; simp at h
  · rw [if_neg h1] at h
    exact ⟨by omega, h⟩

/-- The locks that are held are locks. -/
def Locks4 (st : List Int) : Prop := ∀ z ∈ st, 0 ≤ z ∧ z ≤ 3

theorem Fine.locks {st st' : List Int} {a : Ac} (h : Fine st a st') (hs : Locks4 st) : Locks4 st' := by
  rcases h with ⟨h, h1, h2⟩ | ⟨h, h1, h2, h3⟩ | ⟨h, _, h1⟩
  · exact hs
  · intro z hz
    rcases List.mem_append.1 hz with hz | hz
    · exact hs z hz
    · simp at hz; subst hz; exact ⟨h1, h2⟩
  · intro z hz
    exact hs z (by rw [h1]; exact List.mem_append_left _ hz)

/- Longest. -/
def lonF : List Ac → Nat → Int → Int → Int
  | [], _, _, b => b
  | a :: r, h, t, b => if a.d = 2 then lonF r (h + 1) t (max b t) else if a.d = 3 then (if h = 1 then lonF r 0 0 (max b 0) else lonF r (h - 1) t (max b t)) else (if h = 0 then lonF r 0 0 (max b 0) else lonF r h (t + a.n) (max b (t + a.n)))
def longF (l : List Ac) : Int := lonF l 0 0 0

/- Ceilings. -/
def topA (p m : Int) : List Ac → Int → Int
  | [], b => b
  | a :: r, b => topA p m r (if a.d = 2 ∧ a.n = m then max b p else b)
def topL (m : Int) : List Lj → Int → Int
  | [], b => b
  | x :: r, b => topL m r (topA x.p m x.acts b)
def topsF (l : List Lj) : List Int := [topL 0 l (-1), topL 1 l (-1), topL 2 l (-1), topL 3 l (-1)]

end Go.Proofs.Ytcmoehednkaehah
namespace Go.Proofs.Ytcmoehednkaehah
open Go.ChangeShapes Go.WideShapes Go.ChangeAt Go.RowKit

set_option maxRecDepth 20000 in
theorem within_any (w : World) (n a b : Int) : Calls Try.prog 20 #[.int .i64 n, .int .i64 a, .int .i64 b] w fun r w' => r = .returned (.bool (within n a b)) ∧ w' = w := by
  go_enter Try.func20, Try.ntmps20
  go_wp2_with fail
  all_goals
    go_ret
    refine ⟨?_, rfl⟩
    show Ending.returned (Value.bool _) = _
    congr 2
    unfold within
    first | (simp; done) | (simp; omega)

set_option maxRecDepth 20000 in
theorem few_any (w : World) (n : Int) : Calls Try.prog 6 #[.int .i64 n] w fun r w' => r = .returned (.bool (decide (n ≤ 5000))) ∧ w' = w := by
  go_enter Try.func6, Try.ntmps6
  go_wp2_with fail
  go_ret
  exact ⟨rfl, rfl⟩

theorem F_ends {w : World} {g : Nat} {c k : Value} {a : Act} (h : w.heap[g]? = some (.cells #[c, k] 31 (0, 0))) (h3 : a.tmps[4]?.getD undef = .pointer (some ⟨g, 0, none⟩)) :
    (results Try.f16 a.tmps).run Try.prog w = .ok (.agg #[c, k]) w := by
  obtain ⟨c1, f1, l1⟩ := cells_of (l := [_, _]) h
  have c10 := c1 0 _ rfl
  have c11 := c1 1 _ rfl
  simp [results, Try.results16, go_sem, h3, c10, c11]

set_option maxRecDepth 20000 in
theorem F_any (w : World) (a b : Int) : Calls Try.prog 16 #[.int .i64 a, .int .i64 b] w fun r w' => r = .returned (.agg #[.int .i64 a, .int .i64 b]) ∧ Below w.heap.size w w' := by
  go_enter Try.func16, Try.ntmps16
  go_wp2_with fail
  refine bodyPost_ret (F_ends (heap_alloc_new _ _) rfl) rfl ?_
  exact ⟨rfl, below_new _ _⟩

/- Which is the first. -/
def idxI (z : Int) : List Int → Nat → Int
  | [], _ => -1
  | x :: r, i => if z = x then (i : Int) else idxI z r (i + 1)

theorem idxI_mem (z : Int) : ∀ (l : List Int) (k : Nat), decide (0 ≤ idxI z l k) = decide (z ∈ l)
  | [], k => by simp [idxI]
  | y :: r, k => by
    by_cases h : z = y
    · simp [idxI, h]
    · simp [idxI, h, idxI_mem z r (k + 1)]

set_option maxRecDepth 20000 in
set_option maxHeartbeats 2000000 in
theorem index_any (w : World) (xs : List Int) (v : Value) (z : Int) (hl : xs.length ≤ 1000000) (hv : RowSl nuV w xs v) :
    Calls Try.prog 43 #[v, .int .i64 z] w fun r w' => r = .returned (.int .i64 (idxI z xs 0)) ∧ Below w.heap.size w w' := by
  obtain ⟨ad, c, rfl, -, hcap, hrow⟩ := hv
  have HR : Hid (xs = [] ∨ ∃ b o, ad = some ⟨b, o, none⟩ ∧ ∀ q u, (xs.flatMap nuV)[q]? = some u → w.cell? ⟨b, o + q, none⟩ = some u) := hrow
  clear hrow
  go_enter Try.func43, Try.ntmps43
  go_wp2_with fail
  go_loopw [8] (fun i wr => ∃ j : Nat, j ≤ xs.length ∧ i = .int .i64 j ∧ Below w.heap.size w wr ∧ idxI z (xs.drop j) j = idxI z xs 0) (fun i _ => xs.length - (intOf i).toNat)
  case atStart => exact ⟨0, Nat.zero_le _, rfl, Below.refl _ _, rfl⟩
  case round =>
    obtain ⟨j, hj, rfl, hg, hac⟩ := hrel
    have HG : Hid (Below w.heap.size w wr) := hg
    by_cases hjl : j < xs.length
    · obtain ⟨x, hx, hd⟩ := drop_at hjl
      rcases HR.out with h | ⟨gb, go, rfl, hr1⟩
      · rw [h] at hjl; simp at hjl
      have y0 := nu_at (fun q u hq => below_cell hg (hr1 q u hq)) hx
      have hji : (j : Int) < (xs.length : Int) := by omega
      rw [hd, idxI] at hac
      by_cases hp : z = x
      · rw [if_pos hp] at hac
        have HE : Hid ((j : Int) = idxI z xs 0) := hac
        clear hac hd hr1 hx hg
        subst hp
        go_wp2_with fail
        all_goals try go_quiet (fail)
        all_goals try go_wp2_with fail
        go_ret
        rw [← HE.out]
        first | exact ⟨rfl, HG.out⟩ | exact ⟨rfl, below_seq HG.out below_drewN'⟩
      · rw [if_neg hp] at hac
        have HE : Hid (idxI z (xs.drop (j + 1)) (j + 1) = idxI z xs 0) := hac
        clear hac hd hr1 hx hg
        go_wp2_with fail
        all_goals try go_quiet (fail)
        all_goals try go_wp2_with fail
        first
          | exact ⟨⟨j + 1, by omega, by simp, HG.out, HE.out⟩, by simp [intOf]; omega⟩
          | exact ⟨⟨j + 1, by omega, by simp, below_seq HG.out below_drewN', HE.out⟩, by simp [intOf]; omega⟩
    · have hje : j = xs.length := by omega
      subst hje
      have HE : Hid ((-1 : Int) = idxI z xs 0) := by rw [List.drop_length] at hac; exact hac
      clear hac hg
      go_wp2_with fail
      go_ret
      rw [← HE.out]
      exact ⟨rfl, HG.out⟩

set_option maxRecDepth 20000 in
theorem contains_any (w : World) (xs : List Int) (v : Value) (z : Int) (hl : xs.length ≤ 1000000) (hv : RowSl nuV w xs v) :
    Calls Try.prog 36 #[v, .int .i64 z] w fun r w' => r = .returned (.bool (decide (z ∈ xs))) ∧ Below w.heap.size w w' := by
  rw [← idxI_mem z xs 0]
  have HI := index_any w xs v z hl hv
  obtain ⟨ad, c, rfl, -⟩ := hv
  go_enter Try.func36, Try.ntmps36
  go_wp2_with (go_at_call 43; refine HI.mono ?_; rintro r w1 ⟨rfl, hb1⟩)
  go_ret
  exact ⟨rfl, hb1⟩
end Go.Proofs.Ytcmoehednkaehah
namespace Go.Proofs.Ytcmoehednkaehah
open Go.ChangeShapes Go.WideShapes Go.ChangeAt Go.RowKit

theorem nu_flat (l : List Int) : l.flatMap nuV = l.map (Value.int .i64) := by
  induction l with
  | nil => rfl
  | cons x r ih => rw [List.flatMap_cons, ih]; rfl

theorem info3 : (Try.prog.info? 3).map (fun i => (i.zero, i.size, i.bytes)) = some (some (.int .i64 0), 1, 8) := by kernel_rfl

/-- The locks that are held, as a row of one's own. -/
def Stk (W : World) (B : Nat) (tv : Value) (st : List Int) : Prop := W.ownsRow B 3 1 tv st.length (st.map (Value.int .i64))

theorem Stk.cases {W : World} {B : Nat} {tv : Value} {th : List Int} (h : Stk W B tv th) : (tv = .slice none 0 0 ∧ th = []) ∨ ∃ g cap cur, tv = .slice (some ⟨g, 0, none⟩) th.length cap ∧ B ≤ g ∧ W.heap[g]? = some (.cells cur 3 (0, 0)) ∧ th.length ≤ cap ∧ cap ≤ maxLen ∧ cur.size = cap ∧ cur.toList.take th.length = th.map (Value.int .i64) := by
  obtain ⟨hl, ⟨h1, h2⟩ | ⟨g, cap, cur, h1, h2, h3, h4, h5, h6, h7⟩⟩ := h
  · exact .inl ⟨h1, List.eq_nil_of_length_eq_zero h2⟩
  · exact .inr ⟨g, cap, cur, h1, h2, h3, h4, h5, by omega, by rw [Nat.mul_one] at h7; exact h7⟩

theorem Stk.mk' {W : World} {B g cap : Nat} {th : List Int} {cur : Array Value} (hB : B ≤ g) (hg : W.heap[g]? = some (.cells cur 3 (0, 0))) (hcap : th.length ≤ cap) (hm : cap ≤ maxLen) (hs : cur.size = cap) (hc : cur.toList.take th.length = th.map (Value.int .i64)) : Stk W B (.slice (some ⟨g, 0, none⟩) th.length cap) th :=
  ⟨by simp, .inr ⟨g, cap, cur, rfl, hB, hg, hcap, hm, by omega, by rw [Nat.mul_one]; exact hc⟩⟩

theorem Stk.row {W : World} {B : Nat} {tv : Value} {th : List Int} (h : Stk W B tv th) : RowSl nuV W th tv := by
  rcases h.cases with ⟨rfl, rfl⟩ | ⟨g, cap, cur, rfl, h1, h2, h3, h4, h5, h6⟩
  · exact RowSl.nil _ _
  · refine ⟨_, cap, rfl, (fun e => by cases e), h3, .inr ⟨g, 0, rfl, fun q u hq => ?_⟩⟩
    rw [nu_flat] at hq
    have hql := (List.getElem?_eq_some_iff.1 hq).1
    rw [List.length_map] at hql
    rw [Nat.zero_add]
    unfold World.cell?
    rw [h2]
    rw [← h6, List.getElem?_take_of_lt hql, Array.getElem?_toList] at hq
    simpa using hq

theorem Stk.pop {W : World} {B g cap n : Nat} {th : List Int} {z : Int} (h : Stk W B (.slice (some ⟨g, 0, none⟩) n cap) (th ++ [z])) : Stk W B (.slice (some ⟨g, 0, none⟩) th.length cap) th := by
  rcases h.cases with ⟨h0, _⟩ | ⟨g', cap', cur, e, h1, h2, h3, h4, h5, h6⟩
  · cases h0
  · cases e
    refine Stk.mk' h1 h2 (by simp at h3; omega) h4 h5 ?_
    have e2 : (cur.toList.take (th ++ [z]).length).take th.length = ((th ++ [z]).map (Value.int .i64)).take th.length := by rw [h6]
    rw [List.take_take, Nat.min_eq_left (by simp)] at e2
    rw [e2, List.map_append, List.take_left' (by simp)]

theorem Stk.keep {W W' : World} {B : Nat} {tv : Value} {th : List Int} (h : Stk W B tv th) (hk : ∀ k, tv.ownBlock = some k → W'.heap[k]? = W.heap[k]?) : Stk W' B tv th := by
  rcases h.cases with ⟨rfl, rfl⟩ | ⟨g, cap, cur, rfl, h1, h2, h3, h4, h5, h6⟩
  · exact ⟨rfl, .inl ⟨rfl, rfl⟩⟩
  · exact Stk.mk' h1 ((hk g rfl).trans h2) h3 h4 h5 h6

theorem owns_value {w : World} {B n size : Nat} {e : TypeId} {v : Value} {xs : List Value} (h : w.ownsRow B e size v n xs) : ∃ ad c, v = .slice ad n c := by
  obtain ⟨hl, ⟨h, hn⟩ | ⟨g, cap, cur, he, -⟩⟩ := h
  · exact ⟨none, 0, by rw [h]; simp_all⟩
  · exact ⟨_, _, he⟩

theorem Stk.grow {W W' : World} {B : Nat} {tv : Value} {th : List Int} (h : Stk W B tv th) (hb : Below W.heap.size W W') : Stk W' B tv th := by
  refine h.keep fun k hk => ?_
  rcases h.cases with ⟨rfl, rfl⟩ | ⟨g, cap, cur, rfl, h1, h2, -⟩
  · cases hk
  · cases hk
    exact hb.block _ (Array.getElem?_eq_some_iff.1 h2).1

theorem Stk.low {W : World} {B : Nat} {tv : Value} {th : List Int} (h : Stk W B tv th) {k : Nat} (hk : tv.ownBlock = some k) : B ≤ k := by
  rcases h.cases with ⟨rfl, rfl⟩ | ⟨g, cap, cur, rfl, h1, -⟩
  · cases hk
  · cases hk; exact h1

/-- Nothing below B has turned but one block. -/
structure But (B g : Nat) (w w' : World) : Prop where
  os : w'.os = w.os
  tape : w'.tape = w.tape
  output : w'.output = w.output
  size : w.heap.size ≤ w'.heap.size
  block : ∀ k, k < B → k ≠ g → w'.heap[k]? = w.heap[k]?

theorem But.of_below {B g : Nat} {w w' : World} (h : Below B w w') : But B g w w' := ⟨h.os, h.tape, h.output, h.size, fun k hk _ => h.block k hk⟩
theorem But.below {B C g : Nat} {w w' : World} (h : But B g w w') (h1 : C ≤ g) (h2 : C ≤ B) : Below C w w' := ⟨h.os, h.tape, h.output, h.size, fun k hk => h.block k (by omega) (by omega)⟩
theorem But.trans {B g : Nat} {a b c : World} (h : But B g a b) (k : But B g b c) : But B g a c :=
  ⟨k.os.trans h.os, k.tape.trans h.tape, k.output.trans h.output, Nat.le_trans h.size k.size, fun i hi hn => (k.block i hi hn).trans (h.block i hi hn)⟩
theorem But.set {B g : Nat} {w w' : World} (h : But B g w w') (i : Nat) (v : Value) : But B g w (w'.setCell ⟨g, i, none⟩ v) := by
  refine ⟨h.os, h.tape, h.output, ?_, fun k hk hn => ?_⟩
  · show w.heap.size ≤ (w'.heap.modify g _).size
    rw [Array.size_modify]; exact h.size
  · show (w'.heap.modify g _)[k]? = _
    rw [Array.getElem?_modify, if_neg (fun e => hn e.symm)]
    exact h.block k hk hn

/-- What is left behind an act that is checked. -/
def DoPost (B g : Nat) (W W' : World) (st : List Int) (x : Ac) : Prop := But B g W W' ∧ (doC st x = 0 → ∃ tv, W'.heap[g]? = some (.cells #[tv] 78 (0, 0)) ∧ Stk W' B tv (doS st x))

theorem DoPost.stay {B g : Nat} {W W' : World} {st : List Int} {x : Ac} {tv : Value} (hg : W.heap[g]? = some (.cells #[tv] 78 (0, 0))) (hO : Stk W B tv st) (hB : B ≤ W.heap.size) (hb : Below W.heap.size W W') (hs : doC st x = 0 → doS st x = st) : DoPost B g W W' st x :=
  ⟨But.of_below (hb.mono hB), fun h0 => ⟨tv, (hb.block g (Array.getElem?_eq_some_iff.1 hg).1).trans hg, by rw [hs h0]; exact hO.grow hb⟩⟩

set_option maxRecDepth 20000 in
set_option maxHeartbeats 4000000 in
theorem do_any (W : World) (B g : Nat) (tv : Value) (st : List Int) (x : Ac) (hg : W.heap[g]? = some (.cells #[tv] 78 (0, 0))) (hgB : g < B) (hB : B ≤ W.heap.size) (hO : Stk W B tv st) (hl : st.length ≤ 1000) :
    Calls Try.prog 32 #[.pointer (some ⟨g, 0, none⟩), x.val] W fun r W' => r = .returned (.int .i64 (doC st x)) ∧ DoPost B g W W' st x := by
  have HS : Hid (∀ W', Below W.heap.size W W' → (doC st x = 0 → doS st x = st) → DoPost B g W W' st x) := fun W' hb hs => DoPost.stay hg hO hB hb hs
  have HO : Hid (W.heap[g]? = some (.cells #[tv] 78 (0, 0)) ∧ Stk W B tv st) := ⟨hg, hO⟩
  obtain ⟨gc, gf, gl⟩ := cells_of (l := [_]) hg
  have g0 := gc 0 _ rfl
  have gf0 := gf 0
  obtain ⟨ad, cp, htv⟩ := hO.row.len
  subst htv
  clear gc gf hg hO
  obtain ⟨d, n⟩ := x
  unfold Ac.val
  dsimp only
  have H0 := below_new W (.cells #[.int .i64 d, .int .i64 n] 61)
  by_cases h1 : d = 1
  · subst h1
    rcases hw : within n 1 1000 with _ | _
    · have e : doC st ⟨1, n⟩ = 3 := by simp [doC, hw]
      rw [e]
      go_enter Try.func32, Try.ntmps32
      go_wp2_with (go_at_call 20; refine (within_any _ _ _ _).mono ?_; rintro r w1 ⟨rfl, rfl⟩; rw [hw])
      go_ret
      exact ⟨rfl, HS.out _ H0 (fun h => by rw [e] at h; cases h)⟩
    · have e : doC st ⟨1, n⟩ = 0 := by simp [doC, hw]
      rw [e]
      go_enter Try.func32, Try.ntmps32
      go_wp2_with (go_at_call 20; refine (within_any _ _ _ _).mono ?_; rintro r w1 ⟨rfl, rfl⟩; rw [hw])
      go_ret
      exact ⟨rfl, HS.out _ H0 (fun _ => by simp [doS])⟩
  have b1 : (d == 1) = false := by simpa using h1
  by_cases h2 : d = 2
  · subst h2
    rcases hw : within n 0 3 with _ | _
    · have e : doC st ⟨2, n⟩ = 3 := by simp [doC, hw]
      rw [e]
      go_enter Try.func32, Try.ntmps32
      go_wp2_with (go_at_call 20; refine (within_any _ _ _ _).mono ?_; rintro r w1 ⟨rfl, rfl⟩; rw [hw])
      go_ret
      exact ⟨rfl, HS.out _ H0 (fun h => by rw [e] at h; cases h)⟩
    · have HC := contains_any (W.alloc (.cells #[.int .i64 2, .int .i64 n] 61)) st (.slice ad st.length cp) n (by omega) (HO.out.2.row.below H0)
      by_cases hm : n ∈ st
      · have e : doC st ⟨2, n⟩ = 5 := by simp [doC, hw, hm]
        rw [e]
        rw [decide_eq_true hm] at HC
        go_enter Try.func32, Try.ntmps32
        go_wp2_with (first | (go_at_call 20; refine (within_any _ _ _ _).mono ?_; rintro r w1 ⟨rfl, rfl⟩; rw [hw]) | (go_at_call 36; refine HC.mono ?_; rintro r w2 ⟨rfl, hb2⟩))
        go_ret
        exact ⟨rfl, HS.out _ (below_seq H0 hb2) (fun h => by rw [e] at h; cases h)⟩
      · have e : doC st ⟨2, n⟩ = 0 := by simp [doC, hw, hm]
        rw [e]
        rw [decide_eq_false hm] at HC
        obtain ⟨i0, hi0, hz0, hz1, hz2⟩ := info_parts info3
        have HW : Hid (∀ w2, Below W.heap.size W w2 → (w2.alloc (.cells #[.int .i64 n] 3)).ownsRow B 3 1 (.slice ad st.length cp) st.length (st.map (Value.int .i64))) := fun w2 hb2 => (HO.out.2.grow hb2).grow (below_new w2 (.cells #[.int .i64 n] 3))
        have H1 : Hid (∀ w2, Below W.heap.size W w2 → ∀ tv' w3, w3.ownsRow B 3 1 tv' (st.length + 1) (st.map (Value.int .i64) ++ [.int .i64 n]) → (w2.alloc (.cells #[.int .i64 n] 3)).grownBy w3 (Value.slice ad st.length cp).ownBlock → w3.cell? ⟨g, 0, none⟩ = some (.slice ad st.length cp) ∧ w3.frozen? ⟨g, 0, none⟩ = false ∧ g < w3.heap.size ∧ DoPost B g W (w3.setCell ⟨g, 0, none⟩ tv') st ⟨2, n⟩) := fun w2 hb2 tv' w3 ho3 hg3 => by
          have hs2 := (HO.out.2.grow hb2).grow (below_new w2 (.cells #[.int .i64 n] 3))
          have hk : w3.heap[g]? = some (.cells #[.slice ad st.length cp] 78 (0, 0)) := by
            rw [hg3.block g (by have := hb2.size; simp; omega) (fun e => by have := hs2.low e.symm; omega)]
            rw [(below_new w2 _).block g (by have := hb2.size; omega), hb2.block g (by omega)]
            exact HO.out.1
          obtain ⟨kc, kf, kl⟩ := cells_of (l := [_]) hk
          refine ⟨kc 0 _ rfl, kf 0, kl, ?_, fun _ => ⟨tv', ?_, ?_⟩⟩
          · refine But.set ?_ 0 tv'
            have hb3 : Below W.heap.size W (w2.alloc (.cells #[.int .i64 n] 3)) := below_seq hb2 (below_new _ _)
            exact ⟨hg3.os.trans hb3.os, hg3.tape.trans hb3.tape, hg3.output.trans hb3.output, Nat.le_trans hb3.size hg3.size, fun k hk _ => (hg3.block k (by have := hb3.size; omega) (fun e => by have := hs2.low e.symm; omega)).trans (hb3.block k (by omega))⟩
          · rw [setCell_at hk]; rfl
          · have ho : Stk w3 B tv' (st ++ [n]) := by
              unfold Stk
              rw [List.length_append, List.map_append]
              exact ho3
            have hd : doS st ⟨2, n⟩ = st ++ [n] := by simp [doS]
            rw [hd]
            refine ho.keep fun k hk => ?_
            show (w3.heap.modify g _)[k]? = _
            rw [Array.getElem?_modify, if_neg (fun e => by have := ho.low hk; omega)]
        go_enter Try.func32, Try.ntmps32
        go_wp2_with (first | (go_at_call 20; refine (within_any _ _ _ _).mono ?_; rintro r w1 ⟨rfl, rfl⟩; rw [hw]) | (go_at_call 36; refine HC.mono ?_; rintro r w2 ⟨rfl, hb2⟩; have c1 : w2.cell? ⟨W.heap.size, 1, none⟩ = some (.int .i64 n) := below_cell hb2 (by go_simp); have H2 : Hid (Below W.heap.size W w2) := below_seq H0 hb2; clear hb2 HC) | (at_builtin; refine wpList_append_own_at _ rfl (.tmp 32) (.tmp 35) 78 rfl B 3 i0 _ 1 8 Try.underlying78 hi0 hz0 hz1 hz2 rfl (by decide) (.slice ad st.length cp) st.length (st.map (Value.int .i64)) rfl (HW.out w2 H2.out) ⟨w2.heap.size, 0, none⟩ 1 1 [.int .i64 n] rfl rfl (fun j u hj => by rw [Addr.add_lit]; have := (cells_of (l := [.int .i64 n]) (heap_alloc_new w2 (.cells #[.int .i64 n] 3))).1 j u hj; simpa using this) (fun u hu => by simp at hu; subst hu; rfl) (by unfold maxLen; omega) (by omega) (by have := H2.out.size; simp; omega) ?_; intro tv' w3 ho3 hg3 _ _; obtain ⟨k1, k2, k3, HD0⟩ := H1.out w2 H2.out tv' w3 ho3 hg3; obtain ⟨ad3, c3, rfl⟩ := owns_value ho3; have HD : Hid (DoPost B g W (w3.setCell ⟨g, 0, none⟩ (.slice ad3 (st.length + 1) c3)) st ⟨2, n⟩) := HD0; clear ho3 hg3 HD0 H1))
        go_ret
        exact ⟨rfl, HD.out⟩
  have b2 : (d == 2) = false := by simpa using h2
  by_cases h3 : d = 3
  · subst h3
    by_cases hlast : st.getLast? = some n
    · obtain ⟨ys, rfl⟩ := List.getLast?_eq_some_iff.1 hlast
      have e : doC (ys ++ [n]) ⟨3, n⟩ = 0 := by simp [doC]
      have ed : doS (ys ++ [n]) ⟨3, n⟩ = ys := by simp [doS]
      rw [e]
      have hlen : (ys ++ [n]).length = ys.length + 1 := by simp
      rcases HO.out.2.cases with ⟨hn, hnil⟩ | ⟨rg, cap, cur, htv, r1, r2, r3, r4, r5, r6⟩
      · simp at hnil
      simp only [Value.slice.injEq] at htv
      obtain ⟨rfl, -, rfl⟩ := htv
      have hcell : W.cell? ⟨rg, ys.length, none⟩ = some (.int .i64 n) := by
        have := nu_at (w := W) (l := ys ++ [n]) (b := rg) (o := 0) (j := ys.length) (z := n) (fun q u hq => by
          obtain ⟨_, _, e9, -, -, h9⟩ := HO.out.2.row
          cases e9
          rcases h9 with h9 | ⟨b9, o9, e9, h9⟩
          · simp at h9
          · cases e9; exact h9 q u hq) (by simp)
        simpa using this
      have hrl : rg < W.heap.size := World.block_lt_of_cell? _ _ hcell
      rw [hlen] at g0
      have HP : Hid (∀ m, DoPost B g W (((W.alloc (.cells #[.int .i64 3, .int .i64 n] 61)).drewN m).setCell ⟨g, 0, none⟩ (.slice (some ⟨rg, 0, none⟩) ys.length cp)) (ys ++ [n]) ⟨3, n⟩) := fun m => by
        have hb1 : Below W.heap.size W ((W.alloc (.cells #[.int .i64 3, .int .i64 n] 61)).drewN m) := below_seq H0 below_drewN'
        have hk : ((W.alloc (.cells #[.int .i64 3, .int .i64 n] 61)).drewN m).heap[g]? = some (.cells #[.slice (some ⟨rg, 0, none⟩) (ys ++ [n]).length cp] 78 (0, 0)) := (hb1.block g gl).trans HO.out.1
        refine ⟨But.set (But.of_below (hb1.mono hB)) _ _, fun _ => ⟨_, by rw [setCell_at hk]; rfl, ?_⟩⟩
        rw [ed]
        refine ((HO.out.2.grow hb1).pop).keep fun k hk => ?_
        cases hk
        show (((W.alloc (.cells #[.int .i64 3, .int .i64 n] 61)).drewN m).heap.modify g _)[rg]? = _
        rw [Array.getElem?_modify, if_neg (by omega)]
      clear r2 r6 r5 cur
      have h9 : (ys.length : Int) < (ys.length : Int) + 1 := by omega
      have h8 : ¬ ((ys.length : Int) < 0) := by omega
      rw [hlen] at r3
      go_enter Try.func32, Try.ntmps32
      go_wp2_with fail
      go_quiet (fail)
      go_wp2_with fail
      go_ret
      exact ⟨rfl, HP.out _⟩
    · have e : doC st ⟨3, n⟩ = 10 := by simp [doC, hlast]
      rw [e]
      have HE : Hid (∀ W', Below W.heap.size W W' → DoPost B g W W' st ⟨3, n⟩) := fun W' hb => HS.out W' hb (fun h => by rw [e] at h; cases h)
      by_cases hnil : st = []
      · subst hnil
        go_enter Try.func32, Try.ntmps32
        go_wp2_with fail
        go_quiet (fail)
        go_wp2_with fail
        go_ret
        exact ⟨rfl, HE.out _ (below_seq H0 below_drewN')⟩
      · obtain ⟨ys, z, rfl⟩ : ∃ ys z, st = ys ++ [z] := ⟨st.dropLast, st.getLast hnil, (List.dropLast_concat_getLast hnil).symm⟩
        have hzn : (z == n) = false := by
          have : ¬ z = n := fun e => hlast (by rw [e]; simp)
          simpa using this
        have hzn' : (z != n) = true := by simp [bne, hzn]
        have hlen : (ys ++ [z]).length = ys.length + 1 := by simp
        obtain ⟨ad', c', e9, -, hcp, hrow⟩ := HO.out.2.row
        cases e9
        rcases hrow with hrow | ⟨rb, ro, rfl, hrow⟩
        · simp at hrow
        have hcell := nu_at (j := ys.length) (z := z) hrow (by simp)
        have hrl : rb < W.heap.size := World.block_lt_of_cell? _ _ hcell
        rw [hlen] at g0 hcp
        have h9 : (ys.length : Int) < (ys.length : Int) + 1 := by omega
        have h8 : ¬ ((ys.length : Int) < 0) := by omega
        clear hrow
        go_enter Try.func32, Try.ntmps32
        go_wp2_with fail
        go_quiet (fail)
        go_wp2_with fail
        go_ret
        exact ⟨rfl, HE.out _ (below_seq H0 below_drewN')⟩
  · have b3 : (d == 3) = false := by simpa using h3
    have e : doC st ⟨d, n⟩ = 6 := by simp [doC, h1, h2, h3]
    rw [e]
    go_enter Try.func32, Try.ntmps32
    go_wp2_with fail
    go_ret
    exact ⟨rfl, HS.out _ H0 (fun h => by rw [e] at h; cases h)⟩
end Go.Proofs.Ytcmoehednkaehah
