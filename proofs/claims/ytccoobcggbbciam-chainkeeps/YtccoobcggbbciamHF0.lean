import Derived.Test.YtccoobcggbbciamHC0
import Derived.Test.YtccoobcggbbciamXE
import Derived.Test.YtccoobcggbbciamNJ
import Derived.Maps.AppendAt
import Derived.Deep.CutRange
import Derived.Deep.CutBlock
namespace Go.Proofs.Ytccoobcggbbciam
open Go.ChangeShapes Go.WideShapes Go.ChangeAt Go.RowKit

/-- An own row takes one more element, which lies in a block of its own. -/
theorem own_push {wr : World} {B T E n size bytes : Nat} {z : Value} {xs : List Value} {av : Value} (hu : Try.prog.underlying T = some (.slice E)) (hi : (Try.prog.info? E).map (fun i => (i.zero, i.size, i.bytes)) = some (some z, size, bytes)) (hzs : z.cells.size = size) (hsz : 0 < size)
    (h : wr.ownsRow B E size av n xs) (x : List Value) (hx : x.length = size) (h1 : ∀ u ∈ x, u.oneCell' = true) (hl : n ≤ 1000000) (hby : bytes ≤ 1000) (hB : B ≤ wr.heap.size) :
    ∃ ad c w4, (Builtin.append_ #[T, T] T #[av, .slice (some ⟨wr.heap.size, 0, none⟩) 1 1]).run Try.prog (wr.alloc (.cells x.toArray E)) = .ok (.slice ad (n + 1) c) w4 ∧ w4.ownsRow B E size (.slice ad (n + 1) c) (n + 1) (xs ++ x) ∧ Below B wr w4 ∧ ∀ (k : Nat) (cs : Array Value) (ty : TypeId), wr.heap[k]? = some (.cells cs ty (0, 0)) → (ty ≠ E ∨ k < B) → w4.heap[k]? = some (.cells cs ty (0, 0)) := by
  obtain ⟨i0, hi0, hz0, hz1, hz2⟩ := info_parts hi
  have hr := ownsRow_below h (below_new wr (.cells x.toArray E))
  have hbb : (n + 1) * bytes ≤ 140737488355328 := Nat.le_trans (Nat.mul_le_mul (show n + 1 ≤ 1000001 by omega) hby) (by decide)
  obtain ⟨v4, w4, hrun, ho4, hg4, -, hv4⟩ := run_append_own_at (P := Try.prog) (w := wr.alloc (.cells x.toArray E)) B T T E i0 _ size bytes hu hi0 hz0 hz1 hz2 hzs hsz av n xs hr ⟨wr.heap.size, 0, none⟩ 1 1 x (by omega) (fun j u hj => by rw [Addr.add_lit]; have := (cells_of (l := x) (heap_alloc_new wr (.cells x.toArray E))).1 j u hj; simpa using this) h1 (by unfold maxLen; omega) hbb (by simp; omega)
  obtain ⟨ad, c, rfl⟩ := owns_value ho4
  have hold : ∀ k, k < wr.heap.size → some k ≠ av.ownBlock → w4.heap[k]? = wr.heap[k]? := fun k hk hn => (hg4.block k (by simp; omega) hn).trans (Below.heap_alloc _ _ _ hk)
  refine ⟨ad, c, w4, hrun, ho4, ((below_new wr _).mono hB).grown hg4 (by simp; omega) (fun k hk => (h.lt k hk).1), fun k cs ty hk ht => ?_⟩
  refine (hold k (Array.getElem?_eq_some_iff.1 hk).1 (fun e => ?_)).trans hk
  obtain ⟨-, ⟨hv, -⟩ | ⟨g', cap, cur, hv, hgB, hg', -⟩⟩ := h
  · rw [hv] at e; cases e
  · rw [hv] at e
    have hgk : k = g' := by simpa [Value.ownBlock] using e
    rcases ht with ht | ht
    · rw [← hgk, hk] at hg'
      cases hg'
      exact ht rfl
    · omega

/-- The cells of an own row. -/
theorem own_cells {w : World} {B n size : Nat} {e : TypeId} {v : Value} {xs : List Value} (h : w.ownsRow B e size v n xs) (hn : 0 < n) : ∃ g c cur, v = .slice (some ⟨g, 0, none⟩) n c ∧ B ≤ g ∧ g < w.heap.size ∧ n ≤ c ∧ c ≤ maxLen ∧ w.heap[g]? = some (.cells cur e (0, 0)) ∧ cur.size = c * size ∧ ∀ (q : Nat) (u : Value), xs[q]? = some u → w.cell? ⟨g, q, none⟩ = some u := by
  have h' := h
  obtain ⟨hl, ⟨h1, h2⟩ | ⟨g, cap, cur, he, hb, hg, hc1, hc2, hc3, hc4⟩⟩ := h
  · omega
  · subst he
    refine ⟨g, cap, cur, rfl, hb, (Array.getElem?_eq_some_iff.1 hg).1, hc1, hc2, hg, hc3, fun q u hq => ?_⟩
    have hql := (List.getElem?_eq_some_iff.1 hq).1
    exact (h'.cellAt q (by omega)).trans hq

/-- How late each part may be there, messages apart. -/
def lat0 (l : List Pa) (tk : List Int) : List Int := l.map fun x => if x.fr = -1 then 0 else tk.getD x.fr.toNat 0
/-- The messages, and to which part each goes. -/
def frFrom : List Pa → List Int → Nat → List (Nat × Fr)
  | [], _, _ => []
  | x :: r, tk, k => (if x.fr ≠ -1 ∧ x.se ≠ 0 then [(k, (⟨x.se, x.t, x.d, tk.getD x.fr.toNat 0⟩ : Fr))] else []) ++ frFrom r tk (k + 1)
def frsP (l : List Pa) (tk : List Int) : List (Nat × Fr) := frFrom l tk 0

theorem frFrom_append : ∀ (a b : List Pa) (tk : List Int) (k : Nat), frFrom (a ++ b) tk k = frFrom a tk k ++ frFrom b tk (k + a.length)
  | [], b, tk, k => by simp [frFrom]
  | x :: r, b, tk, k => by
    rw [List.cons_append, frFrom, frFrom, frFrom_append r b tk (k + 1), List.append_assoc, List.length_cons, show k + 1 + r.length = k + (r.length + 1) by omega]

theorem frsP_snoc {l : List Pa} {tk : List Int} {i : Nat} {x : Pa} (hx : l[i]? = some x) : frsP (l.take (i + 1)) tk = frsP (l.take i) tk ++ (if x.fr ≠ -1 ∧ x.se ≠ 0 then [(i, (⟨x.se, x.t, x.d, tk.getD x.fr.toNat 0⟩ : Fr))] else []) := by
  have hi : i < l.length := (List.getElem?_eq_some_iff.1 hx).1
  unfold frsP
  rw [List.take_add_one, hx, frFrom_append]
  simp [frFrom, show min i l.length = i by omega]

theorem lat0_snoc {l : List Pa} {tk : List Int} {i : Nat} {x : Pa} (hx : l[i]? = some x) : lat0 (l.take (i + 1)) tk = lat0 (l.take i) tk ++ [if x.fr = -1 then 0 else tk.getD x.fr.toNat 0] := by
  unfold lat0
  rw [List.take_add_one, hx]
  simp

theorem lat0_len (l : List Pa) (tk : List Int) : (lat0 l tk).length = l.length := by unfold lat0; simp

theorem frFrom_len : ∀ (l : List Pa) (tk : List Int) (k : Nat), (frFrom l tk k).length ≤ l.length
  | [], _, _ => by simp [frFrom]
  | x :: r, tk, k => by
    have := frFrom_len r tk (k + 1)
    rw [frFrom, List.length_append, List.length_cons]
    split <;> simp <;> omega

theorem frFrom_idx : ∀ (l : List Pa) (tk : List Int) (k : Nat), ∀ y ∈ frFrom l tk k, k ≤ y.1 ∧ y.1 < k + l.length
  | [], _, _, y, hy => by simp [frFrom] at hy
  | x :: r, tk, k, y, hy => by
    rw [frFrom, List.mem_append] at hy
    rcases hy with hy | hy
    · split at hy
      · rw [List.mem_singleton.1 hy]
        simp
      · simp at hy
    · have := frFrom_idx r tk (k + 1) y hy
      rw [List.length_cons]
      omega

/-- The times put where they belong. -/
def putAll (late : List Int) : List Nat → List Int → List Int
  | i :: r, t :: ts => putAll (late.set i t) r ts
  | _, _ => late

/-- What lateness tells. -/
def LatR (l : List Pa) (tk : List Int) (res : Option (List Int)) : Prop :=
  (frsP l tk = [] ∧ res = some (lat0 l tk)) ∨
  (frsP l tk ≠ [] ∧ ∃ ts e, TmA ((frsP l tk).map (·.2)) ts e ∧ ((e.1 ≠ 0 ∧ res = none) ∨ (e.1 = 0 ∧ res = some (putAll (lat0 l tk) ((frsP l tk).map (·.1)) ts))))

theorem LatR.one {l : List Pa} {tk : List Int} {r r' : Option (List Int)} (h : LatR l tk r) (h' : LatR l tk r') : r = r' := by
  rcases h with ⟨h1, rfl⟩ | ⟨h1, ts, e, h2, h3⟩
  · rcases h' with ⟨g1, rfl⟩ | ⟨g1, -⟩
    · rfl
    · exact absurd h1 g1
  · rcases h' with ⟨g1, -⟩ | ⟨g1, us, f, g2, g3⟩
    · exact absurd g1 h1
    · obtain ⟨rfl, rfl⟩ := h2.one g2
      rcases h3 with ⟨h3, rfl⟩ | ⟨h3, rfl⟩
      · rcases g3 with ⟨-, rfl⟩ | ⟨g3, -⟩
        · rfl
        · exact absurd g3 h3
      · rcases g3 with ⟨g3, -⟩ | ⟨-, rfl⟩
        · exact absurd h3 g3
        · rfl

theorem infoFr : (Try.prog.info? 64).map (fun i => (i.zero, i.size, i.bytes)) = some (some (.agg #[.int .i64 0, .int .i64 0, .int .i64 0, .int .i64 0]), 4, 32) := by kernel_rfl
theorem infoI3 : (Try.prog.info? 3).map (fun i => (i.zero, i.size, i.bytes)) = some (some (.int .i64 0), 1, 8) := by kernel_rfl

theorem Fr.oneC {x : Fr} {u : Value} (h : u ∈ x.vals) : u.oneCell' = true := by
  unfold Fr.vals at h
  simp at h
  rcases h with rfl | rfl | rfl | rfl <;> rfl

/-- What lateness holds. -/
structure LS (w W : World) (gl n : Nat) (late : List Int) (fs : List (Nat × Fr)) (fv tv : Value) : Prop where
  bel : Below w.heap.size w W
  row : W.heap[gl]? = some (.cells (runCells n late).toArray 3 (0, 0))
  fr : W.ownsRow (gl + 1) 64 4 fv fs.length ((fs.map (·.2)).flatMap Fr.vals)
  tl : W.ownsRow (gl + 1) 3 1 tv fs.length (fs.map (fun y => Value.int .i64 (y.1 : Int)))
  low : w.heap.size ≤ gl

theorem LS.lt {w W : World} {gl n : Nat} {late : List Int} {fs : List (Nat × Fr)} {fv tv : Value} (h : LS w W gl n late fs fv tv) : gl < W.heap.size := (Array.getElem?_eq_some_iff.1 h.row).1

theorem LS.grow {w W W' : World} {gl n : Nat} {late : List Int} {fs : List (Nat × Fr)} {fv tv : Value} (h : LS w W gl n late fs fv tv) (hb : Below W.heap.size W W') : LS w W' gl n late fs fv tv :=
  ⟨below_seq h.bel hb, (hb.block _ h.lt).trans h.row, ownsRow_below h.fr hb, ownsRow_below h.tl hb, h.low⟩

theorem ownsRow_keep3 {w w' : World} {B n size : Nat} {e : TypeId} {v : Value} {xs : List Value} (h : w.ownsRow B e size v n xs) (hs : ∀ k cs, B ≤ k → w.heap[k]? = some (.cells cs e (0, 0)) → w'.heap[k]? = w.heap[k]?) : w'.ownsRow B e size v n xs := by
  obtain ⟨hl, h | ⟨g, cap, cur, he, hb, hg, hr⟩⟩ := h
  · exact ⟨hl, .inl h⟩
  · exact ⟨hl, .inr ⟨g, cap, cur, he, hb, (hs g cur hb hg).trans hg, hr⟩⟩

theorem LS.put {w W : World} {gl n : Nat} {late : List Int} {fs : List (Nat × Fr)} {fv tv : Value} (h : LS w W gl n late fs fv tv) (hn : late.length < n) (v : Int) : LS w (W.setCell ⟨gl, late.length, none⟩ (.int .i64 v)) gl n (late ++ [v]) fs fv tv := by
  refine ⟨h.bel.setCell h.low _, ?_, ?_, ?_, h.low⟩
  · rw [setCell_list h.row, runCells_snoc hn]
  · exact ownsRow_same h.fr (fun k hk _ => Below.heap_setCell _ _ _ _ (by show k ≠ gl; omega))
  · exact ownsRow_same h.tl (fun k hk _ => Below.heap_setCell _ _ _ _ (by show k ≠ gl; omega))

/-- Nothing to wait for: the cell stays zero. -/
theorem LS.skip {w W : World} {gl n : Nat} {late : List Int} {fs : List (Nat × Fr)} {fv tv : Value} (h : LS w W gl n late fs fv tv) (hn : late.length < n) : LS w W gl n (late ++ [0]) fs fv tv := by
  refine ⟨h.bel, ?_, h.fr, h.tl, h.low⟩
  have e : runCells n (late ++ [0]) = runCells n late := by
    unfold runCells
    obtain ⟨m, hm⟩ : ∃ m, n - late.length = m + 1 := ⟨n - late.length - 1, by omega⟩
    rw [hm, List.replicate_succ]
    simp [show n - (late.length + 1) = m by omega]
  rw [e]
  exact h.row

/-- One frame more. -/
theorem LS.pushF {w W : World} {gl n : Nat} {late : List Int} {fs : List (Nat × Fr)} {fv tv : Value} (h : LS w W gl n late fs fv tv) (x : Fr) (hl : fs.length ≤ 100) : ∃ ad c w4, (Builtin.append_ #[61, 61] 61 #[fv, .slice (some ⟨W.heap.size, 0, none⟩) 1 1]).run Try.prog (W.alloc (.cells #[.int .i64 x.c, .int .i64 x.t, .int .i64 x.d, .int .i64 x.j] 64)) = .ok (.slice ad (fs.length + 1) c) w4 ∧ w4.ownsRow (gl + 1) 64 4 (.slice ad (fs.length + 1) c) (fs.length + 1) ((fs.map (·.2)).flatMap Fr.vals ++ x.vals) ∧ Below (gl + 1) W w4 ∧ ∀ (k : Nat) (cs : Array Value) (ty : TypeId), W.heap[k]? = some (.cells cs ty (0, 0)) → (ty ≠ 64 ∨ k < gl + 1) → w4.heap[k]? = some (.cells cs ty (0, 0)) :=
  own_push (T := 61) (E := 64) Try.underlying61 infoFr rfl (by omega) h.fr x.vals rfl (fun u hu => Fr.oneC hu) (by omega) (by omega) (by have := h.lt; omega)
end Go.Proofs.Ytccoobcggbbciam
namespace Go.Proofs.Ytccoobcggbbciam
open Go.ChangeShapes Go.WideShapes Go.ChangeAt Go.RowKit

/-- An own row takes one more element, wherever that lies. -/
theorem own_pushA {W : World} {B T E n size bytes ge : Nat} {z : Value} {xs : List Value} {av : Value} (hu : Try.prog.underlying T = some (.slice E)) (hi : (Try.prog.info? E).map (fun i => (i.zero, i.size, i.bytes)) = some (some z, size, bytes)) (hzs : z.cells.size = size) (hsz : 0 < size)
    (h : W.ownsRow B E size av n xs) (x : List Value) (hx : x.length = size) (hc : ∀ j u, x[j]? = some u → W.cell? ⟨ge, j, none⟩ = some u) (h1 : ∀ u ∈ x, u.oneCell' = true) (hl : n ≤ 1000000) (hby : bytes ≤ 1000) (hB : B ≤ W.heap.size) :
    ∃ ad c w4, (Builtin.append_ #[T, T] T #[av, .slice (some ⟨ge, 0, none⟩) 1 1]).run Try.prog W = .ok (.slice ad (n + 1) c) w4 ∧ w4.ownsRow B E size (.slice ad (n + 1) c) (n + 1) (xs ++ x) ∧ Below B W w4 ∧ ∀ (k : Nat) (cs : Array Value) (ty : TypeId), W.heap[k]? = some (.cells cs ty (0, 0)) → (ty ≠ E ∨ k < B) → w4.heap[k]? = some (.cells cs ty (0, 0)) := by
  obtain ⟨i0, hi0, hz0, hz1, hz2⟩ := info_parts hi
  have hbb : (n + 1) * bytes ≤ 140737488355328 := Nat.le_trans (Nat.mul_le_mul (show n + 1 ≤ 1000001 by omega) hby) (by decide)
  obtain ⟨v4, w4, hrun, ho4, hg4, -, hv4⟩ := run_append_own_at (P := Try.prog) (w := W) B T T E i0 _ size bytes hu hi0 hz0 hz1 hz2 hzs hsz av n xs h ⟨ge, 0, none⟩ 1 1 x (by omega) (fun j u hj => by rw [Addr.add_lit, Nat.zero_add]; exact hc j u hj) h1 (by unfold maxLen; omega) hbb hB
  obtain ⟨ad, c, rfl⟩ := owns_value ho4
  refine ⟨ad, c, w4, hrun, ho4, (Below.refl _ _).grown hg4 hB (fun k hk => (h.lt k hk).1), fun k cs ty hk ht => ?_⟩
  refine (hg4.block k (Array.getElem?_eq_some_iff.1 hk).1 (fun e => ?_)).trans hk
  obtain ⟨-, ⟨hv, -⟩ | ⟨g', cap, cur, hv, hgB, hg', -⟩⟩ := h
  · rw [hv] at e; cases e
  · rw [hv] at e
    have hgk : k = g' := by simpa [Value.ownBlock] using e
    rcases ht with ht | ht
    · rw [← hgk, hk] at hg'
      cases hg'
      exact ht rfl
    · omega

/-- What lateness holds, the rows as they lie. -/
structure LG (w W : World) (gl n : Nat) (late : List Int) (nf : Nat) (fx : List Value) (fv : Value) (nt : Nat) (tx : List Value) (tv : Value) : Prop where
  bel : Below w.heap.size w W
  row : W.heap[gl]? = some (.cells (runCells n late).toArray 3 (0, 0))
  fr : W.ownsRow (gl + 1) 64 4 fv nf fx
  tl : W.ownsRow (gl + 1) 3 1 tv nt tx
  low : w.heap.size ≤ gl

theorem LG.lt {w W : World} {gl n nf nt : Nat} {late : List Int} {fx tx : List Value} {fv tv : Value} (h : LG w W gl n late nf fx fv nt tx tv) : gl < W.heap.size := (Array.getElem?_eq_some_iff.1 h.row).1

theorem LG.grow {w W W' : World} {gl n nf nt : Nat} {late : List Int} {fx tx : List Value} {fv tv : Value} (h : LG w W gl n late nf fx fv nt tx tv) (hb : Below W.heap.size W W') : LG w W' gl n late nf fx fv nt tx tv :=
  ⟨below_seq h.bel hb, (hb.block _ h.lt).trans h.row, ownsRow_below h.fr hb, ownsRow_below h.tl hb, h.low⟩

theorem LS.lg {w W : World} {gl n : Nat} {late : List Int} {fs : List (Nat × Fr)} {fv tv : Value} (h : LS w W gl n late fs fv tv) : LG w W gl n late fs.length ((fs.map (·.2)).flatMap Fr.vals) fv fs.length (fs.map (fun y => Value.int .i64 (y.1 : Int))) tv := ⟨h.bel, h.row, h.fr, h.tl, h.low⟩

theorem LG.ls {w W : World} {gl n : Nat} {late : List Int} {fs : List (Nat × Fr)} {fv tv : Value} {y : Nat × Fr} (h : LG w W gl n late (fs.length + 1) ((fs.map (·.2)).flatMap Fr.vals ++ y.2.vals) fv (fs.length + 1) (fs.map (fun y => Value.int .i64 (y.1 : Int)) ++ [.int .i64 (y.1 : Int)]) tv) : LS w W gl n late (fs ++ [y]) fv tv := by
  refine ⟨h.bel, h.row, ?_, ?_, h.low⟩
  · have := h.fr
    simpa using this
  · have := h.tl
    simpa using this

theorem LG.pushF {w W : World} {gl n nf nt ge : Nat} {late : List Int} {fx tx : List Value} {fv tv : Value} (h : LG w W gl n late nf fx fv nt tx tv) (x : Fr) (hc : W.heap[ge]? = some (.cells #[.int .i64 x.c, .int .i64 x.t, .int .i64 x.d, .int .i64 x.j] 64 (0, 0))) (hl : nf ≤ 100) : ∃ ad c w4, (Builtin.append_ #[61, 61] 61 #[fv, .slice (some ⟨ge, 0, none⟩) 1 1]).run Try.prog W = .ok (.slice ad (nf + 1) c) w4 ∧ LG w w4 gl n late (nf + 1) (fx ++ x.vals) (.slice ad (nf + 1) c) nt tx tv ∧ ∀ (k : Nat) (cs : Array Value) (ty : TypeId), W.heap[k]? = some (.cells cs ty (0, 0)) → ty ≠ 64 → w4.heap[k]? = some (.cells cs ty (0, 0)) := by
  have hlt := h.lt
  have hlow := h.low
  obtain ⟨ad, c, w4, h1, h2, h3, h4⟩ := own_pushA (T := 61) (E := 64) Try.underlying61 infoFr rfl (by omega) h.fr x.vals rfl (cells_of (l := x.vals) hc).1 (fun u hu => Fr.oneC hu) (by omega) (by omega) (by omega)
  exact ⟨ad, c, w4, h1, ⟨h.bel.trans (h3.mono (by omega)), h4 _ _ _ h.row (.inr (by omega)), h2, ownsRow_keep3 h.tl (fun k cs _ hk => (h4 _ _ _ hk (.inl (by decide))).trans hk.symm), h.low⟩, fun k cs ty hk ht => h4 k cs ty hk (.inl ht)⟩

theorem LG.pushT {w W : World} {gl n nf nt ge : Nat} {late : List Int} {fx tx : List Value} {fv tv : Value} (h : LG w W gl n late nf fx fv nt tx tv) (i : Int) (hc : W.heap[ge]? = some (.cells #[.int .i64 i] 3 (0, 0))) (hl : nt ≤ 100) : ∃ ad c w4, (Builtin.append_ #[24, 24] 24 #[tv, .slice (some ⟨ge, 0, none⟩) 1 1]).run Try.prog W = .ok (.slice ad (nt + 1) c) w4 ∧ LG w w4 gl n late nf fx fv (nt + 1) (tx ++ [.int .i64 i]) (.slice ad (nt + 1) c) ∧ ∀ (k : Nat) (cs : Array Value) (ty : TypeId), W.heap[k]? = some (.cells cs ty (0, 0)) → ty ≠ 3 → w4.heap[k]? = some (.cells cs ty (0, 0)) := by
  have hlt := h.lt
  have hlow := h.low
  obtain ⟨ad, c, w4, h1, h2, h3, h4⟩ := own_pushA (T := 24) (E := 3) Try.underlying24 infoI3 rfl (by omega) h.tl [.int .i64 i] rfl (cells_of (l := [_]) hc).1 (fun u hu => by simp at hu; subst hu; rfl) (by omega) (by omega) (by omega)
  exact ⟨ad, c, w4, h1, ⟨h.bel.trans (h3.mono (by omega)), h4 _ _ _ h.row (.inr (by omega)), ownsRow_keep3 h.fr (fun k cs _ hk => (h4 _ _ _ hk (.inl (by decide))).trans hk.symm), h2, h.low⟩, fun k cs ty hk ht => h4 k cs ty hk (.inl ht)⟩

/-- A part's block and a cell of late, while the rows grow. -/
def PtAt (W : World) (gt gl i : Nat) (x : Pa) (tv : Int) : Prop := W.heap[gt]? = some (.cells #[.int .i64 x.co, .int .i64 x.fr, .int .i64 x.se, .int .i64 x.c, .int .i64 x.t, .int .i64 x.d, .int .i64 x.p] 35 (0, 0)) ∧ W.cell? ⟨gl, i, none⟩ = some (.int .i64 tv)
theorem PtAt.cells {W : World} {gt gl i : Nat} {x : Pa} {tv : Int} (h : PtAt W gt gl i x tv) : W.cell? ⟨gt, 2, none⟩ = some (.int .i64 x.se) ∧ W.cell? ⟨gt, 4, none⟩ = some (.int .i64 x.t) ∧ W.cell? ⟨gt, 5, none⟩ = some (.int .i64 x.d) ∧ W.cell? ⟨gl, i, none⟩ = some (.int .i64 tv) := by
  obtain ⟨c, -, -⟩ := cells_of (l := [_, _, _, _, _, _, _]) h.1
  exact ⟨c 2 _ rfl, c 4 _ rfl, c 5 _ rfl, h.2⟩
theorem PtAt.grow {W W' : World} {gt gl i : Nat} {x : Pa} {tv : Int} (h : PtAt W gt gl i x tv) (hb : Below W.heap.size W W') : PtAt W' gt gl i x tv := ⟨(hb.block _ (Array.getElem?_eq_some_iff.1 h.1).1).trans h.1, below_cell hb h.2⟩
end Go.Proofs.Ytccoobcggbbciam
