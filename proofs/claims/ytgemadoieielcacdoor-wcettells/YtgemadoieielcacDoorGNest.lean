import Derived.Test.YtgemadoieielcacDoorGBegins
import Derived.Maps.OwnSet
import Derived.Maps.Views
import Derived.Laws.AppendOwnNone
namespace Go.Proofs.YtgemadoieielcacDoor
open Go.ChangeShapes Go.WideShapes Go.ChangeAt Go.RowKit

/-- A slice of numbers, wherever. -/
def IntSl (w : World) (vs : List Int) (v : Value) : Prop := ∃ ad c, v = .slice ad vs.length c ∧ (vs = [] ∨ ∃ b o, ad = some ⟨b, o, none⟩ ∧ ∀ j, j < vs.length → w.cell? ⟨b, o + j, none⟩ = some (.int .i64 (vs.getD j 0)))

/-- Where an instruction may go on. -/
def waysOf (k : Nat) (x : In) : List Int := if x.op = 11 then [x.a] else if x.op = 12 then [x.a, (k : Int) + 1] else if x.op = 14 then [x.b, (k : Int) + 1] else [(k : Int) + 1]

theorem one_sl (w : World) (z : Int) : IntSl (w.alloc (.cells #[.int .i64 z] 3)) [z] (.slice (some ⟨w.heap.size, 0, none⟩) 1 1) := by
  refine ⟨_, _, rfl, .inr ⟨w.heap.size, 0, rfl, fun j hj => ?_⟩⟩
  have h := (cells_of (l := [.int .i64 z]) (heap_alloc_new w (.cells #[.int .i64 z] 3))).1
  have hj' : j < 1 := hj
  have : j = 0 := by omega
  subst this
  exact h 0 _ rfl

theorem two_sl (w : World) (z y : Int) : IntSl (w.alloc (.cells #[.int .i64 z, .int .i64 y] 3)) [z, y] (.slice (some ⟨w.heap.size, 0, none⟩) 2 2) := by
  refine ⟨_, _, rfl, .inr ⟨w.heap.size, 0, rfl, fun j hj => ?_⟩⟩
  have h := (cells_of (l := [.int .i64 z, .int .i64 y]) (heap_alloc_new w (.cells #[.int .i64 z, .int .i64 y] 3))).1
  have hj' : j < 2 := hj
  have : j = 0 ∨ j = 1 := by omega
  rcases this with rfl | rfl
  · exact h 0 _ rfl
  · exact h 1 _ rfl

theorem one_sl' (w : World) (o : Obj) (z : Int) : IntSl ((w.alloc o).alloc (.cells #[.int .i64 z] 3)) [z] (.slice (some ⟨w.heap.size + 1, 0, none⟩) 1 1) := by
  have := one_sl (w.alloc o) z
  rwa [show (w.alloc o).heap.size = w.heap.size + 1 by simp] at this
theorem two_sl' (w : World) (o : Obj) (z y : Int) : IntSl ((w.alloc o).alloc (.cells #[.int .i64 z, .int .i64 y] 3)) [z, y] (.slice (some ⟨w.heap.size + 1, 0, none⟩) 2 2) := by
  have := two_sl (w.alloc o) z y
  rwa [show (w.alloc o).heap.size = w.heap.size + 1 by simp] at this

set_option maxRecDepth 20000 in
set_option maxHeartbeats 4000000 in
/-- ways. -/
theorem ways_any (w : World) (k : Nat) (x : In) (hk : k ≤ 4194304) : Calls Tryd.prog 83 #[.int .i64 k, x.val] w fun r w' => (∃ v, r = .returned v ∧ IntSl w' (waysOf k x) v) ∧ Below w.heap.size w w' := by
  obtain ⟨op, a, b⟩ := x
  show Calls Tryd.prog 83 #[.int .i64 k, .agg #[.int .i64 op, .int .i64 a, .int .i64 b]] w _
  unfold waysOf
  dsimp only
  by_cases h1 : op = 11
  · subst h1
    rw [if_pos rfl]
    go_enter Tryd.func83, Tryd.ntmps83
    go_wp2_with fail
    go_ret
    exact ⟨⟨_, rfl, one_sl' _ _ _⟩, (below_new _ _).alloc (by simp) _⟩
  rw [if_neg h1]
  by_cases h2 : op = 12
  · subst h2
    rw [if_pos rfl]
    go_enter Tryd.func83, Tryd.ntmps83
    go_wp2_with fail
    go_ret
    exact ⟨⟨_, rfl, two_sl' _ _ _ _⟩, (below_new _ _).alloc (by simp) _⟩
  rw [if_neg h2]
  by_cases h3 : op = 14
  · subst h3
    rw [if_pos rfl]
    go_enter Tryd.func83, Tryd.ntmps83
    go_wp2_with fail
    go_ret
    exact ⟨⟨_, rfl, two_sl' _ _ _ _⟩, (below_new _ _).alloc (by simp) _⟩
  rw [if_neg h3]
  have f1 : (op == 11) = false := by simpa using h1
  have f2 : (op == 12) = false := by simpa using h2
  have f3 : (op == 14) = false := by simpa using h3
  go_enter Tryd.func83, Tryd.ntmps83
  go_wp2_with fail
  go_ret
  exact ⟨⟨_, rfl, one_sl' _ _ _⟩, (below_new _ _).alloc (by simp) _⟩
end Go.Proofs.YtgemadoieielcacDoor
namespace Go.Proofs.YtgemadoieielcacDoor
open Go.ChangeShapes Go.WideShapes Go.ChangeAt Go.RowKit

theorem infoI : (Tryd.prog.info? 3).map (fun i => (i.zero, i.size, i.bytes)) = some (some (.int .i64 0), 1, 8) := by kernel_rfl

/-- A map of numbers, as a function. -/
def HtAt (w : World) (mb N : Nat) (M : Int → Option Int) : Prop := ∃ D : DataW Unit, w.ownsMap Tryd.prog 3 (plainElem Tryd.prog 3) mb N D ∧ ∀ z : Int, Maps.has D (.int .i64 z) = (M z).isSome ∧ D.atKey (.int .i64 z) (.lit (.int .i64 0)) = .lit (.int .i64 ((M z).getD 0))

def setH (M : Int → Option Int) (z v : Int) : Int → Option Int := fun y => if y = z then some v else M y

theorem wf_int {z : Int} (h : -9223372036854775808 ≤ z ∧ z ≤ 9223372036854775807) : (Lit.int .i64 z).wf = true := by
  have h1 : IntKind.i64.min = -9223372036854775808 := by decide
  have h2 : IntKind.i64.max = 9223372036854775807 := by decide
  simp [Lit.wf, h1, h2]
  omega

theorem zero3 (w : World) : (zeroValue 3).run Tryd.prog w = .ok (.int .i64 0) w := by
  obtain ⟨i0, hi0, hz0, hz1, hz2⟩ := info_parts infoI
  simp [zeroValue, typeInfo, hi0, hz0]

theorem HtAt.made (w : World) : HtAt (w.alloc (.map #[] 0)) w.heap.size 0 (fun _ => none) :=
  ⟨.map [], World.ownsMap_made w _ _ _, fun _ => ⟨rfl, rfl⟩⟩

theorem HtAt.look {w : World} {mb N : Nat} {M : Int → Option Int} (h : HtAt w mb N M) {z : Int} (hz : -9223372036854775808 ≤ z ∧ z ≤ 9223372036854775807) :
    (Instr.lookup 105 (.map (some mb)) (.int .i64 z) true).run Tryd.prog w = .ok (.tuple #[.int .i64 ((M z).getD 0), .bool (M z).isSome]) w := by
  obtain ⟨D, ho, hM⟩ := h
  obtain ⟨v, ps, hrun, hv⟩ := ho.look_ok (t := 105) (e := 3) (Maps.int_keyed Tryd.underlying3) Tryd.underlying105 (zero3 w) (plainElem_int Tryd.underlying3 (wf_int (by omega))) (Maps.keyOf_int_mk Tryd.underlying3 (wf_int hz))
  rw [(hM z).2] at hv
  obtain ⟨c, rfl, hc, -⟩ := plainElem_int_inv Tryd.underlying3 hv
  simp only [Prod.mk.injEq, DataW.lit.injEq, Lit.int.injEq, true_and] at hc
  rw [(hM z).1] at hrun
  rw [hrun, ← hc.1]

theorem HtAt.look1 {w : World} {mb N : Nat} {M : Int → Option Int} (h : HtAt w mb N M) {z : Int} (hz : -9223372036854775808 ≤ z ∧ z ≤ 9223372036854775807) :
    (Instr.lookup 105 (.map (some mb)) (.int .i64 z) false).run Tryd.prog w = .ok (.int .i64 ((M z).getD 0)) w := by
  obtain ⟨D, ho, hM⟩ := h
  obtain ⟨c, hrun, hat, -⟩ := ho.lookup_int (t := 105) (e := 3) (Maps.int_keyed Tryd.underlying3) Tryd.underlying105 Tryd.underlying3 (zero3 w) (Maps.keyOf_int_mk Tryd.underlying3 (wf_int hz))
  rw [(hM z).2] at hat
  simp only [DataW.lit.injEq, Lit.int.injEq, true_and] at hat
  rw [hrun, hat]

theorem HtAt.set {w : World} {mb N : Nat} {M : Int → Option Int} (h : HtAt w mb N M) (hN : N < 1048576) {z v : Int} (hz : -9223372036854775808 ≤ z ∧ z ≤ 9223372036854775807) (hv : -9223372036854775808 ≤ v ∧ v ≤ 9223372036854775807) :
    ∃ w', (Instr.mapUpdate 105 (.map (some mb)) (.int .i64 z) (.int .i64 v)).run Tryd.prog w = .ok () w' ∧ HtAt w' mb (N + 1) (setH M z v) ∧ w.grownBy w' (some mb) := by
  obtain ⟨D, ho, hM⟩ := h
  obtain ⟨w', hrun, ho', hg⟩ := ho.update (t := 105) (e := 3) (Maps.int_keyed Tryd.underlying3) Tryd.underlying105 (by unfold maxLen; omega) (Maps.keyOf_int_mk Tryd.underlying3 (wf_int hz)) (plainElem_int Tryd.underlying3 (wf_int hv))
  refine ⟨w', hrun, ⟨_, ho', fun y => ?_⟩, hg⟩
  unfold setH
  by_cases hy : y = z
  · subst hy
    rw [if_pos rfl]
    exact ⟨Maps.has_put_same (k := .int .i64 y) ho.isMap trivial _, Maps.atKey_put_same (k := .int .i64 y) ho.isMap trivial _ _⟩
  · rw [if_neg hy]
    have hne : (Lit.int .i64 y) ≠ (Lit.int .i64 z) := by simpa using hy
    exact ⟨(Maps.has_put_other hne _).trans (hM y).1, (Maps.atKey_put_other hne _ _).trans (hM y).2⟩

theorem HtAt.below {w w' : World} {mb N : Nat} {M : Int → Option Int} (h : HtAt w mb N M) (hb : Below w.heap.size w w') : HtAt w' mb N M := by
  obtain ⟨D, ⟨es, clock, h1, r⟩, hM⟩ := h
  exact ⟨D, ⟨es, clock, (hb.block mb (Array.getElem?_eq_some_iff.1 h1).1).trans h1, r⟩, hM⟩

theorem HtAt.same {w w' : World} {mb N : Nat} {M : Int → Option Int} (h : HtAt w mb N M) (hb : w'.heap[mb]? = w.heap[mb]?) : HtAt w' mb N M := by
  obtain ⟨D, ⟨es, clock, h1, r⟩, hM⟩ := h
  exact ⟨D, ⟨es, clock, hb.trans h1, r⟩, hM⟩
end Go.Proofs.YtgemadoieielcacDoor
namespace Go.Proofs.YtgemadoieielcacDoor
open Go.ChangeShapes Go.WideShapes Go.ChangeAt Go.RowKit

def intVs (l : List Int) : List Value := l.map fun z => .int .i64 z
def posVs (os : List Nat) : List Value := os.map fun (o : Nat) => Value.int .i64 ((o : Int) + 1)

/-- What the looks at regions hold, in a world. -/
structure NS (w0 wF w : World) (rb wb B : Nat) (l : List In) (iv : Value) (os : List Nat) (ov : Value) (ws : List Int) : Prop where
  blk : w.heap[rb]? = some (.cells #[iv, ov, .slice (some ⟨wb, 0, none⟩) (l.length + 1) (l.length + 1)] 129 (0, 0))
  img : InSl w0 l iv
  bel : Below w0.heap.size w0 w
  own : w.ownsRow B 3 1 ov os.length (posVs os)
  wth : w.heap[wb]? = some (.cells (intVs ws).toArray 3 (0, 0))
  len : ws.length = l.length + 1
  low : ∀ o ∈ os, o < l.length
  ord : (w0.heap.size ≤ rb ∧ w0.heap.size ≤ wb) ∧ rb ≠ wb ∧ rb < B ∧ wb < B
  bas : B ≤ w.heap.size
  fix : ∀ j, j < B → j ≠ rb → j ≠ wb → w.heap[j]? = wF.heap[j]?

theorem owns_value {w : World} {v : Value} {base n : Nat} {xs : List Value} {e : TypeId} {size : Nat} (h : w.ownsRow base e size v n xs) : ∃ ad cap, v = .slice ad n cap := by
  rcases h.2 with ⟨rfl, rfl⟩ | ⟨g, cap, cur, rfl, _⟩
  · exact ⟨_, _, rfl⟩
  · exact ⟨_, _, rfl⟩

theorem posVs_at (os : List Nat) (j : Nat) (h : j < os.length) : (posVs os)[j]? = some (.int .i64 ((os.getD j 0 : Nat) + 1)) := by
  simp [posVs, List.getD, h]

theorem pos_of_own {w : World} {B : Nat} {ov : Value} {os : List Nat} (h : w.ownsRow B 3 1 ov os.length (posVs os)) : PosSl w os ov := by
  obtain ⟨ad, cap, rfl⟩ := owns_value h
  refine ⟨ad, cap, rfl, ?_⟩
  by_cases h0 : os = []
  · exact .inl h0
  obtain ⟨-, ⟨e, he⟩ | ⟨g, cap', cur, e, -, hg, -, -, -, ht⟩⟩ := h
  · exact absurd (List.length_eq_zero_iff.1 he) h0
  cases e
  refine .inr ⟨g, 0, rfl, fun j hj => ?_⟩
  have h1 := posVs_at os j hj
  rw [← ht, List.getElem?_take, if_pos (by omega)] at h1
  unfold World.cell?
  rw [hg]
  simpa using h1

theorem NS.rg {w0 wF w : World} {rb wb B : Nat} {l : List In} {iv : Value} {os : List Nat} {ov : Value} {ws : List Int} (h : NS w0 wF w rb wb B l iv os ov ws) : RgAt w rb l os iv ov (.slice (some ⟨wb, 0, none⟩) (l.length + 1) (l.length + 1)) :=
  ⟨h.blk, h.img.below h.bel, pos_of_own h.own, h.low⟩

theorem ownsRow_same {w w' : World} {B n size : Nat} {e : TypeId} {v : Value} {xs : List Value} (h : w.ownsRow B e size v n xs) (hs : ∀ k, B ≤ k → k < w.heap.size → w'.heap[k]? = w.heap[k]?) : w'.ownsRow B e size v n xs := by
  obtain ⟨hl, h | ⟨g, cap, cur, he, hb, hg, hr⟩⟩ := h
  · exact ⟨hl, .inl h⟩
  · exact ⟨hl, .inr ⟨g, cap, cur, he, hb, (hs g hb (Array.getElem?_eq_some_iff.1 hg).1).trans hg, hr⟩⟩

theorem setCell_at {w : World} {g i : Nat} {cs : Array Value} {t : TypeId} {fr : Nat × Nat} {u : Value} (h : w.heap[g]? = some (.cells cs t fr)) : (w.setCell ⟨g, i, none⟩ u).heap[g]? = some (.cells (cs.setIfInBounds i u) t fr) := by
  have hlt : g < w.heap.size := (Array.getElem?_eq_some_iff.1 h).1
  have h' : w.heap[g] = .cells cs t fr := by simpa [Array.getElem?_eq_getElem hlt] using h
  show (w.heap.modify g _)[g]? = _
  rw [Array.getElem?_eq_getElem (by simpa using hlt), Array.getElem_modify_self, h']
  rfl

section
variable {w0 wF w w' : World} {rb wb B : Nat} {l : List In} {iv : Value} {os : List Nat} {ov : Value} {ws : List Int}

theorem NS.grow (h : NS w0 wF w rb wb B l iv os ov ws) (hb : Below w.heap.size w w') : NS w0 wF w' rb wb B l iv os ov ws := by
  have old : ∀ (k : Nat) (o : Obj), w.heap[k]? = some o → w'.heap[k]? = some o := fun k o hk => (hb.block k (Array.getElem?_eq_some_iff.1 hk).1).trans hk
  exact ⟨old _ _ h.blk, h.img, below_seq h.bel hb, ownsRow_same h.own (fun k _ hk => hb.block k hk), old _ _ h.wth, h.len, h.low, h.ord, Nat.le_trans h.bas hb.size, fun j h1 h2 h3 => (hb.block j (Nat.lt_of_lt_of_le h1 h.bas)).trans (h.fix j h1 h2 h3)⟩

theorem NS.setW (h : NS w0 wF w rb wb B l iv os ov ws) (k : Nat) (z : Int) : NS w0 wF (w.setCell ⟨wb, k, none⟩ (.int .i64 z)) rb wb B l iv os ov (ws.set k z) := by
  obtain ⟨⟨o1, o1'⟩, o2, o3, o4⟩ := h.ord
  refine ⟨(Below.heap_setCell _ _ _ _ (by show rb ≠ wb; omega)).trans h.blk, h.img, h.bel.setCell (by show w0.heap.size ≤ wb; omega) _, ownsRow_same h.own (fun j hj _ => Below.heap_setCell _ _ _ _ (by show j ≠ wb; omega)), ?_, by rw [List.length_set]; exact h.len, h.low, h.ord, by simpa using h.bas, fun j h1 h2 h3 => (Below.heap_setCell _ _ _ _ h3).trans (h.fix j h1 h2 h3)⟩
  rw [setCell_at h.wth]
  simp [intVs, List.map_set]

theorem NS.push (h : NS w0 wF w rb wb B l iv os ov ws) {ov' : Value} {os' : List Nat} (hg : w.grownBy w' ov.ownBlock) (ho : w'.ownsRow B 3 1 ov' os'.length (posVs os')) (hlow : ∀ o ∈ os', o < l.length) : NS w0 wF (w'.setCell ⟨rb, 1, none⟩ ov') rb wb B l iv os' ov' ws := by
  obtain ⟨⟨o1, o1'⟩, o2, o3, o4⟩ := h.ord
  have lr : rb < w.heap.size := (Array.getElem?_eq_some_iff.1 h.blk).1
  have lw : wb < w.heap.size := (Array.getElem?_eq_some_iff.1 h.wth).1
  have nb : ∀ k, k < B → ov.ownBlock ≠ some k := fun k hk e => by have := (h.own.lt k e).1; omega
  have b1 : w'.heap[rb]? = w.heap[rb]? := hg.block rb lr (fun e => nb rb (by omega) e.symm)
  have b2 : w'.heap[wb]? = w.heap[wb]? := hg.block wb lw (fun e => nb wb (by omega) e.symm)
  refine ⟨?_, h.img, (h.bel.grown hg h.bel.size (fun k hk => by have := (h.own.lt k hk).1; omega)).setCell (by show w0.heap.size ≤ rb; omega) _, ownsRow_same ho (fun j hj _ => Below.heap_setCell _ _ _ _ (by show j ≠ rb; omega)), (Below.heap_setCell _ _ _ _ (by show wb ≠ rb; omega)).trans (b2.trans h.wth), h.len, hlow, h.ord, by have := h.bas; have := hg.size; simp; omega, fun j k1 k2 k3 => (Below.heap_setCell _ _ _ _ k2).trans ((hg.block j (Nat.lt_of_lt_of_le k1 h.bas) (fun e => nb j k1 e.symm)).trans (h.fix j k1 k2 k3))⟩
  rw [setCell_at (b1.trans h.blk)]
  simp
end

/-- Anew, where nothing is open. -/
theorem NS.rebase {w0 wF w : World} {rb wb B : Nat} {l : List In} {iv : Value} {ws : List Int} (h : NS w0 wF w rb wb B l iv [] (.slice none 0 0) ws) {B' : Nat} (h1 : B ≤ B') (h2 : B' ≤ w.heap.size) : NS w0 w w rb wb B' l iv [] (.slice none 0 0) ws :=
  ⟨h.blk, h.img, h.bel, World.ownsRow_nil _ _ _ _, h.wth, h.len, h.low, ⟨h.ord.1, h.ord.2.1, by have := h.ord; omega, by have := h.ord; omega⟩, h2, fun _ _ _ _ => rfl⟩

theorem posVs_append (a b : List Nat) : posVs (a ++ b) = posVs a ++ posVs b := by simp [posVs]

/-- A row that is one shorter. -/
theorem ownsRow_shrink {w : World} {B : Nat} {ad : Option Addr} {c : Nat} {os : List Nat} {n : Nat} (h : w.ownsRow B 3 1 (.slice ad (n + 1) c) os.length (posVs os)) (hn : os.length = n + 1) : w.ownsRow B 3 1 (.slice ad n c) os.dropLast.length (posVs os.dropLast) := by
  have hd : os.dropLast.length = n := by simp [hn]
  obtain ⟨hl, ⟨e, he⟩ | ⟨g, cap, cur, e, hb, hg, hc, hm, hs, ht⟩⟩ := h
  · omega
  · simp only [Value.slice.injEq] at e
    obtain ⟨rfl, -, rfl⟩ := e
    refine ⟨by simp [posVs], .inr ⟨g, c, cur, by rw [hd], hb, hg, by omega, hm, hs, ?_⟩⟩
    have e2 : posVs os.dropLast = (posVs os).take (os.dropLast.length * 1) := by
      rw [hd, Nat.mul_one]
      unfold posVs
      rw [← List.map_take, List.dropLast_eq_take, hn]
      rfl
    rw [e2, ← ht, List.take_take]
    congr 1
    omega

/-- What is done at an instruction, of the open regions. -/
def nestOf (l : List In) (k : Nat) (x : In) (os : List Nat) : Int × List Nat :=
  if x.op = 13 ∨ x.op = 16 then (if opens l os x.op x.a ≠ none then (if x.op = 13 then 9 else 10, os) else (0, os ++ [k]))
  else if x.op = 14 then (if os = [] ∨ beginOf (opens l os 13 x.a) ≠ beginOf os.getLast? ∨ x.b ≠ beginOf os.getLast? then (9, os) else (0, os.dropLast))
  else if x.op = 17 then (if os = [] ∨ beginOf (opens l os 16 x.a) ≠ beginOf os.getLast? then (10, os) else (0, os.dropLast))
  else if x.op = 15 then (if opens l os 13 x.a = none then (9, os) else (0, os))
  else (0, os)

/-- An append of one slice of one's own to another. -/
theorem append_two {P : Program} (w : World) (base base' : Nat) (t ty e : TypeId) (i : TypeInfo) (z : Value) (size bytes : Nat) (ht : P.underlying t = some (.slice e)) (hi : P.info? e = some i) (hz : i.zero = some z)
    (hsize : i.size = size) (hby : i.bytes = bytes) (hzs : z.cells.size = size) (hsz : 0 < size) (v : Value) (n : Nat) (xs : List Value) (hown : w.ownsRow base e size v n xs)
    (x : Value) (m : Nat) (ys : List Value) (hx : w.ownsRow base' e size x m ys) (h1c : ∀ u ∈ ys, u.oneCell' = true) (b1 : n + m ≤ maxLen) (b2 : (n + m) * bytes ≤ 140737488355328) (hbase : base ≤ w.heap.size) :
    ∃ v' w', (Builtin.append_ #[t, t] ty #[v, x]).run P w = .ok v' w' ∧ w'.ownsRow base e size v' (n + m) (xs ++ ys) ∧ w.grownBy w' v.ownBlock ∧ (v'.ownBlock = v.ownBlock ∨ ∀ k, v'.ownBlock = some k → w.heap.size ≤ k) := by
  have up : ∀ (v' : Value) (w' : World), w'.ownsRow w.heap.size e size v' (n + m) (xs ++ ys) → w'.ownsRow base e size v' (n + m) (xs ++ ys) := by
    intro v' w' ho
    obtain ⟨q1, q2⟩ := ho
    refine ⟨q1, ?_⟩
    rcases q2 with q2 | ⟨g, cap, cur, hv, hb, r⟩
    · exact .inl q2
    · exact .inr ⟨g, cap, cur, hv, Nat.le_trans hbase hb, r⟩
  have hx' := hx
  rcases hx' with ⟨hl, ⟨rfl, rfl⟩ | ⟨g, cap, cur, rfl, hb, hgg, hcap, hcm, hcs, htk⟩⟩
  · have hys : ys = [] := List.eq_nil_of_length_eq_zero (by simpa using hl)
    subst hys
    refine ⟨v, w, run_append_owned_none w base t ty e i size ht hi v n xs hown, by simpa using hown, ⟨rfl, rfl, rfl, Nat.le_refl _, fun _ _ _ => rfl⟩, .inl rfl⟩
  · have hc := hx.cells rfl
    have hown' := hown
    rcases hown' with ⟨hl', ⟨rfl, rfl⟩ | ⟨g', cap', cur', rfl, hb', hgg', hcap', hcm', hcs', htk'⟩⟩
    · have hxs : xs = [] := List.eq_nil_of_length_eq_zero (by simpa using hl')
      subst hxs
      obtain ⟨v', w', r1, r2, r3, -⟩ := run_append_own (P := P) w w.heap.size t ty e i z size bytes ht hi hz hsize hby hzs hsz (.slice none 0 0) 0 [] (World.ownsRow_nil w _ e size) ⟨g, 0, none⟩ m cap ys hl hc h1c b1 b2 (Nat.le_refl _)
      exact ⟨v', w', r1, up v' w' r2, r3, .inr fun k hk => (r2.lt k hk).1⟩
    · by_cases hr : n + m ≤ cap'
      · obtain ⟨w', r1, r2, r3⟩ := run_append_fits (P := P) w base t ty e i size ht hi hsize g' n cap' xs hown ⟨g, 0, none⟩ m cap ys hl hc h1c hr
        exact ⟨_, w', r1, r2, r3, .inl rfl⟩
      · obtain ⟨v', w', r1, r2, r3⟩ := run_append_arg_grows (P := P) w t ty e i z size bytes ht hi hz hsize hby hzs hsz ⟨g', 0, none⟩ n cap' xs hl' (hown.cells rfl) ⟨g, 0, none⟩ m cap ys hl hc (by omega) b1 b2
        exact ⟨v', w', r1, up v' w' r2, ⟨r3.os, r3.tape, r3.output, r3.size, fun k hk _ => r3.block k hk (by simp)⟩, .inr fun k hk => (r2.lt k hk).1⟩

/-- An append whose run is known, for the walk. -/
theorem append_known {P : Program} {w : World} {ops : Array Oper} {rest : List Oper} {o : Oper} {a : Act} {Q : Exit → Act → World → Prop} (hgd : o.guard = none) (s x : Operand) (t : TypeId)
    (ho : o.op = .call { callee := .builtin .append, args := #[s, x], argTypes := #[t, t] }) {v u v' : Value} {w' : World} (hs : a.eval s = v) (hx : a.eval x = u)
    (hrun : (Builtin.append_ #[t, t] o.type #[v, u]).run P w = .ok v' w') (h : wpList P ops Q rest (a.put o.dst v') w') : wpList P ops Q (o :: rest) a w := by
  refine wpList_plain hgd fun K hK => ?_
  unfold Oper.wp
  simp [execOp, ho, resolve, invoke, builtin, hs, hx, hrun, Result.andThen]
  exact hK _ _ h

theorem info3 : (Tryd.prog.info? 3).map (fun i => (i.zero, i.size, i.bytes)) = some (some (.int .i64 0), 1, 8) := by kernel_rfl
end Go.Proofs.YtgemadoieielcacDoor
