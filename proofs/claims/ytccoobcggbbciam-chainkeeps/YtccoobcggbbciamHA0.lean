import Derived.Test.YtccoobcggbbciamProg
import Derived.WalkKit
import Derived.ProofKit
import Derived.OpenShut
import Derived.Handy
import Derived.Deep.QuietTactic
import Derived.BigQuiet
import Derived.Deep.RegionHeld3
import Derived.Laws.RangeAny
import Derived.Laws.RangeString
import Derived.Laws.MakeOwn
namespace Go.Proofs.Ytccoobcggbbciam
open Go.ChangeShapes Go.WideShapes Go.ChangeAt Go.RowKit

theorem below_cell {w w' : World} (hb : Below w.heap.size w w') {p : Addr} {v : Value} (h : w.cell? p = some v) : w'.cell? p = some v :=
  (hb.cell (World.block_lt_of_cell? w p h)).trans h

theorem below_seq {a b c : World} (h : Below a.heap.size a b) (h' : Below b.heap.size b c) : Below a.heap.size a c := h.trans (h'.mono h.size)

theorem below_new (w : World) (o : Obj) : Below w.heap.size w (w.alloc o) := (Below.refl _ w).alloc (Nat.le_refl _) o

/- Rows of things of so many cells. -/
theorem flat_length {α : Type} (f : α → List Value) (sz : Nat) (hf : ∀ x, (f x).length = sz) (l : List α) : (l.flatMap f).length = l.length * sz := by
  induction l with
  | nil => simp
  | cons x t ih => rw [List.flatMap_cons, List.length_append, ih, hf, List.length_cons, Nat.succ_mul]; omega

theorem flat_at {α : Type} (f : α → List Value) (sz : Nat) (hf : ∀ x, (f x).length = sz) : ∀ (l : List α) (j k : Nat) (x : α), l[j]? = some x → k < sz → (l.flatMap f)[j * sz + k]? = (f x)[k]?
  | [], j, k, x, h, _ => by simp at h
  | y :: t, 0, k, x, h, hk => by
    simp at h
    subst h
    rw [List.flatMap_cons, Nat.zero_mul, Nat.zero_add, List.getElem?_append_left (by rw [hf]; exact hk)]
  | y :: t, j + 1, k, x, h, hk => by
    have := flat_at f sz hf t j k x (by simpa using h) hk
    rw [List.flatMap_cons, Nat.succ_mul, List.getElem?_append_right (by rw [hf]; omega), hf, ← this]
    congr 1
    omega

theorem flat_mem {α : Type} {f : α → List Value} {l : List α} {u : Value} (h : u ∈ l.flatMap f) : ∃ x, u ∈ f x := by
  obtain ⟨x, _, h⟩ := List.mem_flatMap.1 h
  exact ⟨x, h⟩

/-- A slice of such things, wherever it lies. -/
def RowSl {α : Type} (f : α → List Value) (w : World) (l : List α) (v : Value) : Prop := ∃ ad c, v = .slice ad l.length c ∧ (ad = none → l.length = 0 ∧ c = 0) ∧ l.length ≤ c ∧ (l = [] ∨ ∃ b o, ad = some ⟨b, o, none⟩ ∧ ∀ q u, (l.flatMap f)[q]? = some u → w.cell? ⟨b, o + q, none⟩ = some u)

theorem RowSl.below {α : Type} {f : α → List Value} {w w' : World} {l : List α} {v : Value} (h : RowSl f w l v) (hb : Below w.heap.size w w') : RowSl f w' l v := by
  obtain ⟨ad, c, h1, h2, h4, h3⟩ := h
  refine ⟨ad, c, h1, h2, h4, h3.imp id ?_⟩
  rintro ⟨b, o, e, h⟩
  exact ⟨b, o, e, fun q u hq => below_cell hb (h q u hq)⟩

theorem RowSl.nil {α : Type} (f : α → List Value) (w : World) : RowSl f w [] (.slice none 0 0) := ⟨none, 0, rfl, fun _ => ⟨rfl, rfl⟩, Nat.le_refl _, .inl rfl⟩

/-- A list that was lent, and its room. -/
def Lent {α : Type} (f : α → List Value) (w : World) (l : List α) (m : α) (v : Value) : Prop := ∃ b o cap, v = .slice (some ⟨b, o, none⟩) l.length cap ∧ l.length + 3 ≤ cap ∧ ∀ q u, ((l ++ [m, m, m]).flatMap f)[q]? = some u → w.cell? ⟨b, o + q, none⟩ = some u

theorem Lent.below {α : Type} {f : α → List Value} {w w' : World} {l : List α} {m : α} {v : Value} (h : Lent f w l m v) (hb : Below w.heap.size w w') : Lent f w' l m v := by
  obtain ⟨b, o, cap, h1, h2, h3⟩ := h
  exact ⟨b, o, cap, h1, h2, fun q u hq => below_cell hb (h3 q u hq)⟩

theorem Lent.plain {α : Type} {f : α → List Value} {w : World} {l : List α} {m : α} {v : Value} (h : Lent f w l m v) : RowSl f w l v := by
  obtain ⟨b, o, cap, h1, h2, h3⟩ := h
  refine ⟨_, cap, h1, (fun e => by cases e), by omega, .inr ⟨b, o, rfl, fun q u hq => h3 q u ?_⟩⟩
  rw [List.flatMap_append, List.getElem?_append_left (List.getElem?_eq_some_iff.1 hq).1]
  exact hq

theorem RowSl.len {α : Type} {f : α → List Value} {w : World} {l : List α} {v : Value} (h : RowSl f w l v) : ∃ ad c, v = .slice ad l.length c := by
  obtain ⟨ad, c, h1, -⟩ := h
  exact ⟨ad, c, h1⟩

/-- A task. -/
structure Ta where
  nm : ByteArray
  c : Int
  t : Int
  d : Int
  j : Int
  o : Int
  p : Int

def Ta.vals (x : Ta) : List Value := [.string x.nm, .int .i64 x.c, .int .i64 x.t, .int .i64 x.d, .int .i64 x.j, .int .i64 x.o, .int .i64 x.p]
def Ta.val (x : Ta) : Value := .agg #[.string x.nm, .int .i64 x.c, .int .i64 x.t, .int .i64 x.d, .int .i64 x.j, .int .i64 x.o, .int .i64 x.p]
theorem Ta.len (x : Ta) : x.vals.length = 7 := rfl
theorem Ta.one {x : Ta} {u : Value} (h : u ∈ x.vals) : u.oneCell' = true := by
  simp only [Ta.vals, List.mem_cons, List.not_mem_nil, or_false] at h
  rcases h with rfl | rfl | rfl | rfl | rfl | rfl | rfl <;> rfl

/-- The seven cells of a task. -/
def TaAt (w : World) (b o : Nat) (x : Ta) : Prop := w.cell? ⟨b, o, none⟩ = some (.string x.nm) ∧ w.cell? ⟨b, o + 1, none⟩ = some (.int .i64 x.c) ∧ w.cell? ⟨b, o + 2, none⟩ = some (.int .i64 x.t) ∧ w.cell? ⟨b, o + 3, none⟩ = some (.int .i64 x.d) ∧ w.cell? ⟨b, o + 4, none⟩ = some (.int .i64 x.j) ∧ w.cell? ⟨b, o + 5, none⟩ = some (.int .i64 x.o) ∧ w.cell? ⟨b, o + 6, none⟩ = some (.int .i64 x.p)

theorem ta_at {w : World} {l : List Ta} {b o j : Nat} {x : Ta} (h : ∀ q u, (l.flatMap Ta.vals)[q]? = some u → w.cell? ⟨b, o + q, none⟩ = some u) (hj : l[j]? = some x) : TaAt w b (o + j * 7) x := by
  have key : ∀ k u, k < 7 → x.vals[k]? = some u → w.cell? ⟨b, o + j * 7 + k, none⟩ = some u := fun k u hk hu => by
    rw [Nat.add_assoc]
    exact h _ _ ((flat_at Ta.vals 7 Ta.len l j k x hj hk).trans hu)
  exact ⟨key 0 _ (by omega) rfl, key 1 _ (by omega) rfl, key 2 _ (by omega) rfl, key 3 _ (by omega) rfl, key 4 _ (by omega) rfl, key 5 _ (by omega) rfl, key 6 _ (by omega) rfl⟩

theorem TaAt.below {w w' : World} {b o : Nat} {x : Ta} (h : TaAt w b o x) (hb : Below w.heap.size w w') : TaAt w' b o x :=
  ⟨below_cell hb h.1, below_cell hb h.2.1, below_cell hb h.2.2.1, below_cell hb h.2.2.2.1, below_cell hb h.2.2.2.2.1, below_cell hb h.2.2.2.2.2.1, below_cell hb h.2.2.2.2.2.2⟩

theorem cells_of {w : World} {g : Nat} {l : List Value} {T : TypeId} (h : w.heap[g]? = some (.cells l.toArray T (0, 0))) : (∀ j u, l[j]? = some u → w.cell? ⟨g, j, none⟩ = some u) ∧ (∀ j, w.frozen? ⟨g, j, none⟩ = false) ∧ g < w.heap.size := by
  refine ⟨fun j u hj => ?_, fun j => ?_, (Array.getElem?_eq_some_iff.1 h).1⟩
  · unfold World.cell?; rw [h]; simpa using hj
  · unfold World.frozen?; rw [h]; simp

theorem below_drewN' {w : World} {n : Nat} : Below w.heap.size w (w.drewN n) := ⟨rfl, rfl, rfl, Nat.le_refl _, fun _ _ => rfl⟩

/- What is wrong with a task. -/
def allLo (s : ByteArray) : Bool := s.data.toList.all (fun b => decide (97 ≤ b.toNat) && decide (b.toNat ≤ 122))
def within (n a b : Int) : Bool := decide (a ≤ n) && decide (n ≤ b)
def isNm (s : ByteArray) : Bool := within (s.size : Int) 1 10 && allLo s
def stands (x : Ta) : Bool := within x.c 1 10000 && within x.t 1 10000 && within x.d 1 10000 && within x.j 0 10000 && within x.o 0 10000 && within x.p 0 1000
def sameNm (a b : ByteArray) : Bool := a.toList == b.toList
def wrongF (x : Ta) (ahead : List Ta) : Int := if isNm x.nm = false then 4 else if ahead.any (fun y => sameNm y.nm x.nm) = true then 5 else if stands x = false then 3 else if x.d < x.c then 12 else 0
def chkFrom (l : List Ta) : List Ta → Nat → Int × Int
  | [], _ => (0, 0)
  | x :: r, k => if wrongF x (l.take k) = 0 then chkFrom l r (k + 1) else (wrongF x (l.take k), (k : Int))
/-- chapter 7's Check. -/
def chkF (l : List Ta) : Int × Int := if l.length = 0 ∨ 8 < l.length then (2, 0) else chkFrom l l 0

theorem chkFrom_at {l r : List Ta} {k : Nat} {x : Ta} (h : r = x :: l.drop (k + 1)) : chkFrom l r k = if wrongF x (l.take k) = 0 then chkFrom l (l.drop (k + 1)) (k + 1) else (wrongF x (l.take k), (k : Int)) := by
  subst h; rfl

theorem drop_at {α : Type} {l : List α} {k : Nat} (h : k < l.length) : ∃ x, l[k]? = some x ∧ l.drop k = x :: l.drop (k + 1) :=
  ⟨l[k], by simp [h], List.drop_eq_getElem_cons h⟩
end Go.Proofs.Ytccoobcggbbciam
namespace Go.Proofs.Ytccoobcggbbciam
open Go.ChangeShapes Go.WideShapes Go.ChangeAt Go.RowKit

/-- A part of a chain. -/
structure Pa where
  co : Int
  fr : Int
  se : Int
  c : Int
  t : Int
  d : Int
  p : Int

def Pa.val (x : Pa) : Value := .agg #[.int .i64 x.co, .int .i64 x.fr, .int .i64 x.se, .int .i64 x.c, .int .i64 x.t, .int .i64 x.d, .int .i64 x.p]
def Pa.vals (x : Pa) : List Value := [.int .i64 x.co, .int .i64 x.fr, .int .i64 x.se, .int .i64 x.c, .int .i64 x.t, .int .i64 x.d, .int .i64 x.p]
theorem Pa.len (x : Pa) : x.vals.length = 7 := rfl

theorem pa7_at {w : World} {l : List Pa} {b o j : Nat} {x : Pa} (h : ∀ q u, (l.flatMap Pa.vals)[q]? = some u → w.cell? ⟨b, o + q, none⟩ = some u) (hj : l[j]? = some x) : w.cell? ⟨b, o + j * 7, none⟩ = some (.int .i64 x.co) ∧ w.cell? ⟨b, o + j * 7 + 1, none⟩ = some (.int .i64 x.fr) ∧ w.cell? ⟨b, o + j * 7 + 2, none⟩ = some (.int .i64 x.se) ∧ w.cell? ⟨b, o + j * 7 + 3, none⟩ = some (.int .i64 x.c) ∧ w.cell? ⟨b, o + j * 7 + 4, none⟩ = some (.int .i64 x.t) ∧ w.cell? ⟨b, o + j * 7 + 5, none⟩ = some (.int .i64 x.d) ∧ w.cell? ⟨b, o + j * 7 + 6, none⟩ = some (.int .i64 x.p) := by
  have key : ∀ k u, k < 7 → x.vals[k]? = some u → w.cell? ⟨b, o + j * 7 + k, none⟩ = some u := fun k u hk hu => by
    rw [Nat.add_assoc]
    exact h _ _ ((flat_at Pa.vals 7 Pa.len l j k x hj hk).trans hu)
  exact ⟨key 0 _ (by omega) rfl, key 1 _ (by omega) rfl, key 2 _ (by omega) rfl, key 3 _ (by omega) rfl, key 4 _ (by omega) rfl, key 5 _ (by omega) rfl, key 6 _ (by omega) rfl⟩

/-- May a part's numbers stand there, looked at alone? -/
def mayP (x : Pa) : Bool := within x.co 0 3 && within x.se 0 1000 && within x.c 1 10000 && within x.t 1 10000 && within x.p 0 1000
def paZ : Pa := ⟨0, 0, 0, 0, 0, 0, 0⟩
/-- What is wrong with a part that others stand ahead of. -/
def wrongP (x : Pa) (ahead : List Pa) : Int :=
  if mayP x = false then 3
  else if within x.fr (-1) ((ahead.length : Int) - 1) = false ∨ (x.fr = -1 ∧ x.se ≠ 0) then 4
  else if within x.d x.c x.t = false ∨ (x.fr ≠ -1 ∧ x.t ≠ (ahead.getD x.fr.toNat paZ).t) then 12
  else 0
def chkGo : List Pa → List Pa → Int × Int
  | _, [] => (0, 0)
  | a, x :: r => if wrongP x a ≠ 0 then (wrongP x a, (a.length : Int)) else chkGo (a ++ [x]) r
/-- Chapter 18's Check. -/
def chkP (l : List Pa) : Int × Int := if within (l.length : Int) 1 8 = false then (2, 0) else chkGo [] l

set_option maxRecDepth 20000 in
theorem withinC_any (w : World) (n a b : Int) : Calls Try.prog 22 #[.int .i64 n, .int .i64 a, .int .i64 b] w fun r w' => r = .returned (.bool (within n a b)) ∧ w' = w := by
  go_enter Try.func22, Try.ntmps22
  go_wp2_with fail
  all_goals
    go_ret
    refine ⟨?_, rfl⟩
    show Ending.returned (Value.bool _) = _
    congr 2
    unfold within
    first | (simp; done) | (simp; omega)

set_option maxRecDepth 20000 in
theorem begins_any (w : World) (x : Pa) : Calls Try.prog 25 #[x.val] w fun r w' => r = .returned (.bool (x.fr == -1)) ∧ Below w.heap.size w w' := by
  obtain ⟨co, fr, se, c, t, d, p⟩ := x
  have H1 := below_new w (.cells #[.int .i64 co, .int .i64 fr, .int .i64 se, .int .i64 c, .int .i64 t, .int .i64 d, .int .i64 p] 35)
  unfold Pa.val
  dsimp only
  go_enter Try.func25, Try.ntmps25
  go_wp2_with fail
  go_ret
  exact ⟨rfl, H1⟩

set_option maxRecDepth 20000 in
set_option maxHeartbeats 4000000 in
theorem mayC_any (w : World) (x : Pa) : Calls Try.prog 40 #[x.val] w fun r w' => r = .returned (.bool (mayP x)) ∧ Below w.heap.size w w' := by
  obtain ⟨co, fr, se, c, t, d, p⟩ := x
  unfold mayP Pa.val
  dsimp only
  have H1 := below_new w (.cells #[.int .i64 co, .int .i64 fr, .int .i64 se, .int .i64 c, .int .i64 t, .int .i64 d, .int .i64 p] 35)
  rcases h0 : within co 0 3 with _ | _
  · go_enter Try.func40, Try.ntmps40
    go_wp2_with (go_at_call 22; refine (withinC_any _ _ _ _).mono ?_; rintro r w1 ⟨rfl, rfl⟩; first | rw [h0] | skip)
    go_ret
    exact ⟨rfl, H1⟩
  rcases h1 : within se 0 1000 with _ | _
  · go_enter Try.func40, Try.ntmps40
    go_wp2_with (go_at_call 22; refine (withinC_any _ _ _ _).mono ?_; rintro r w1 ⟨rfl, rfl⟩; first | rw [h0] | rw [h1] | skip)
    go_ret
    exact ⟨rfl, H1⟩
  rcases h2 : within c 1 10000 with _ | _
  · go_enter Try.func40, Try.ntmps40
    go_wp2_with (go_at_call 22; refine (withinC_any _ _ _ _).mono ?_; rintro r w1 ⟨rfl, rfl⟩; first | rw [h0] | rw [h1] | rw [h2] | skip)
    go_ret
    exact ⟨rfl, H1⟩
  rcases h3 : within t 1 10000 with _ | _
  · go_enter Try.func40, Try.ntmps40
    go_wp2_with (go_at_call 22; refine (withinC_any _ _ _ _).mono ?_; rintro r w1 ⟨rfl, rfl⟩; first | rw [h0] | rw [h1] | rw [h2] | rw [h3] | skip)
    go_ret
    exact ⟨rfl, H1⟩
  rcases h4 : within p 0 1000 with _ | _
  · go_enter Try.func40, Try.ntmps40
    go_wp2_with (go_at_call 22; refine (withinC_any _ _ _ _).mono ?_; rintro r w1 ⟨rfl, rfl⟩; first | rw [h0] | rw [h1] | rw [h2] | rw [h3] | rw [h4] | skip)
    go_ret
    exact ⟨rfl, H1⟩
  go_enter Try.func40, Try.ntmps40
  go_wp2_with (go_at_call 22; refine (withinC_any _ _ _ _).mono ?_; rintro r w1 ⟨rfl, rfl⟩; first | rw [h0] | rw [h1] | rw [h2] | rw [h3] | rw [h4] | skip)
  go_ret
  exact ⟨rfl, H1⟩
end Go.Proofs.Ytccoobcggbbciam
