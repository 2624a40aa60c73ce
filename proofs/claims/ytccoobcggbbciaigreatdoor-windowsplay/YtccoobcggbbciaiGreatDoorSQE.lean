import Derived.Test.YtccoobcggbbciaiGreatDoorSPV
import Derived.Maps.OwnOps
import Derived.Maps.Views
import Derived.Maps.Keyed
import Derived.Test.YtccoobcggbbciaiGreatDoorSQA
namespace Go.Proofs.YtccoobcggbbciaiGreatDoor.S8
open Go.ChangeShapes Go.WideShapes Go.ChangeAt Go.RowKit

theorem law3 : Go.Maps.Keyed Tryz.prog 3 := Go.Maps.int_keyed Tryz.underlying3
theorem zero3 (w : World) : (zeroValue 3).run Tryz.prog w = .ok (.int .i64 0) w := by kernel_rfl

/-- A map of numbers to numbers. -/
def MapW (W : World) (b cnt : Nat) (left : List Int) : Prop := ∃ D : DataW Unit, W.ownsMap Tryz.prog 3 (plainElem Tryz.prog 3) b cnt D ∧ Go.Maps.IsMap D ∧ ∀ i : Nat, i ≤ 1000000 → D.atKey (.int .i64 (i : Int)) (.lit (.int .i64 0)) = .lit (.int .i64 (L left i))

theorem wfI {z : Int} (h : -1000000000 ≤ z) (h' : z ≤ 1000000000) : (Lit.int .i64 z).wf = true := by
  have h1 : IntKind.i64.min = -9223372036854775808 := rfl
  have h2 : IntKind.i64.max = 9223372036854775807 := rfl
  simp [Lit.wf, h1, h2]
  omega

theorem MapW.start (w : World) : MapW (w.alloc (.map #[] 0)) w.heap.size 0 [] :=
  ⟨.map [], World.ownsMap_made _ _ _ _, ⟨[], rfl⟩, fun _ _ => rfl⟩

theorem MapW.kept {W W' : World} {b cnt : Nat} {left : List Int} {row : Option Nat} (h : MapW W b cnt left) (hg : W.grownBy W' row) (hne : some b ≠ row) : MapW W' b cnt left := by
  obtain ⟨D, h1, h2, h3⟩ := h
  exact ⟨D, h1.kept hg hne, h2, h3⟩

theorem MapW.lt {W : World} {b cnt : Nat} {left : List Int} (h : MapW W b cnt left) : b < W.heap.size := by
  obtain ⟨D, h1, -⟩ := h
  exact h1.lt

theorem MapW.get {W : World} {b cnt : Nat} {left : List Int} (h : MapW W b cnt left) (i : Nat) (hi : i ≤ 1000000) : (Instr.lookup 124 (.map (some b)) (.int .i64 (i : Int)) false).run Tryz.prog W = .ok (.int .i64 (L left i)) W := by
  obtain ⟨D, h1, h2, h3⟩ := h
  obtain ⟨c, hrun, hat, -⟩ := h1.lookup_int law3 Tryz.underlying124 Tryz.underlying3 (zero3 _) (Go.Maps.keyOf_int_mk Tryz.underlying3 (a := (i : Int)) (wfI (by omega) (by omega)))
  rw [h3 i hi] at hat
  simp only [DataW.lit.injEq, Lit.int.injEq, true_and] at hat
  rw [hrun, ← hat]

theorem MapW.put {W : World} {b cnt : Nat} {left left' : List Int} (h : MapW W b cnt left) (i : Nat) (v : Int) (hi : i ≤ 1000000) (hv : -1000000000 ≤ v) (hv' : v ≤ 1000000000) (hc : cnt ≤ 1000000) (he : ∀ j, L left' j = if j = i then v else L left j) :
    ∃ W', (Instr.mapUpdate 124 (.map (some b)) (.int .i64 (i : Int)) (.int .i64 v)).run Tryz.prog W = .ok () W' ∧ MapW W' b (cnt + 1) left' ∧ W.grownBy W' (some b) := by
  obtain ⟨D, h1, h2, h3⟩ := h
  obtain ⟨W', hrun, ho, hg⟩ := h1.update law3 Tryz.underlying124 (by unfold maxLen; omega) (Go.Maps.keyOf_int_mk Tryz.underlying3 (a := (i : Int)) (wfI (by omega) (by omega))) (plainElem_int Tryz.underlying3 (wfI hv hv'))
  refine ⟨W', hrun, ⟨_, ho, ?_, fun j hj => ?_⟩, hg⟩
  · obtain ⟨es, rfl⟩ := h2
    exact ⟨_, rfl⟩
  · by_cases hji : j = i
    · rw [hji, Go.Maps.atKey_put_same (k := .int .i64 (i : Int)) h2 trivial, he, if_pos rfl]
    · rw [Go.Maps.atKey_put_other (by intro e; simp only [Lit.int.injEq, true_and] at e; omega), h3 j hj, he, if_neg hji]
end Go.Proofs.YtccoobcggbbciaiGreatDoor.S8
namespace Go.Proofs.YtccoobcggbbciaiGreatDoor.S8
open Go.ChangeShapes Go.WideShapes Go.ChangeAt Go.RowKit

theorem make_ex (W : World) (n : Nat) (hn : n ≤ 1000000) : ∃ W', (Instr.makeSlice 24 (.int .i64 (n : Int)) (.int .i64 (n : Int))).run Tryz.prog W = .ok (.slice (some ⟨W.heap.size, 0, none⟩) n n) W' ∧ Below W.heap.size W W' ∧ W'.heap[W.heap.size]? = some (.cells (repCells n 0).toArray 3 (0, 0)) :=
  ⟨_, make_row W n W.heap.size hn rfl, below_new _ _, by rw [heap_alloc_new]; simp [repCells]⟩

theorem from_K {P : Program} {c : Code} {q : Exit → Act → World → Prop} {K : Act → World → Prop} (h : ∀ a w, Code.wp P c q a w → K a w) (a : Act) (w : World) (g : Code.wp P c q a w) : K a w := h a w g

theorem info26 : (Tryz.prog.info? 24).map (fun i => (i.zero, i.size, i.bytes)) = some (some (.slice none 0 0), 1, 24) := by kernel_rfl

theorem made_nil (n : Nat) : madeCells (Value.slice none 0 0).cells (n * 1) = (List.replicate n (Value.slice none 0 0)).toArray := by
  apply Array.ext
  · simp [madeCells]
  · intro i h1 h2
    simp [madeCells, Value.cells, Nat.mod_one]

theorem make_rows (W : World) (n : Nat) (hn : n ≤ 1000000) : ∃ W', (Instr.makeSlice 93 (.int .i64 (n : Int)) (.int .i64 (n : Int))).run Tryz.prog W = .ok (.slice (some ⟨W.heap.size, 0, none⟩) n n) W' ∧ Below W.heap.size W W' ∧ W'.heap[W.heap.size]? = some (.cells (List.replicate n (Value.slice none 0 0)).toArray 24 (0, 0)) := by
  obtain ⟨i0, hi0, hz0, hz1, hz2⟩ := info_parts info26
  have h := run_make (P := Tryz.prog) W 93 24 i0 _ Tryz.underlying93 hi0 hz0 .i64 .i64 (n : Int) (n : Int) (by omega) (by omega) (by rw [hz2]; omega) (by omega)
  rw [Int.toNat_natCast, hz1, made_nil] at h
  exact ⟨_, h, below_new _ _, heap_alloc_new _ _⟩

/-- What ran in a tick, as it lies. -/
def EntW (W : World) (mb eb rb : Nat) (v : Value) (b : Int) : Prop := (b = -1 ∧ ∃ ad c, v = .slice ad 0 c) ∨ (0 ≤ b ∧ ∃ g c, v = .slice (some ⟨g, 0, none⟩) 1 c ∧ W.cell? ⟨g, 0, none⟩ = some (.int .i64 b) ∧ g ≠ mb ∧ g ≠ eb ∧ g ≠ rb)

/-- The document's player, as it lies. -/
structure RefW (w W : World) (mb eb rb cnt n : Nat) (left ends runs : List Int) (vs : List Value) : Prop where
  bel : Below w.heap.size w W
  map : MapW W mb cnt left
  ev : W.heap[eb]? = some (.cells (ends.map (Value.int .i64)).toArray 3 (0, 0))
  rv : W.heap[rb]? = some (.cells vs.toArray 24 (0, 0))
  low : w.heap.size ≤ mb ∧ w.heap.size ≤ eb ∧ w.heap.size ≤ rb
  ds : mb ≠ eb ∧ mb ≠ rb ∧ eb ≠ rb
  ent : ∀ (i : Nat) b, runs[i]? = some b → ∃ v, vs[i]? = some v ∧ EntW W mb eb rb v b
  len : vs.length = n

section
variable {w W W' : World} {mb eb rb cnt cnt' n : Nat} {left left' ends ends' runs runs' : List Int} {vs vs' : List Value}

theorem EntW.same {v : Value} {b : Int} (h : EntW W mb eb rb v b) (hk : ∀ g, g < W.heap.size → g ≠ mb → g ≠ eb → g ≠ rb → W'.heap[g]? = W.heap[g]?) : EntW W' mb eb rb v b := by
  rcases h with h | ⟨h0, g, c, h1, h2, h3, h4, h5⟩
  · exact .inl h
  · refine .inr ⟨h0, g, c, h1, ?_, h3, h4, h5⟩
    have hg : g < W.heap.size := World.block_lt_of_cell? _ _ h2
    unfold World.cell? at h2 ⊢
    rw [hk g hg h3 h4 h5]
    exact h2

theorem grown_of_below (hb : Below W.heap.size W W') : W.grownBy W' none := ⟨hb.os, hb.tape, hb.output, hb.size, fun i hi _ => hb.block i hi⟩

theorem RefW.grow (h : RefW w W mb eb rb cnt n left ends runs vs) (hb : Below W.heap.size W W') : RefW w W' mb eb rb cnt n left ends runs vs :=
  ⟨below_seq h.bel hb, h.map.kept (grown_of_below hb) (by simp), (hb.block _ (lt_of_heap h.ev)).trans h.ev, (hb.block _ (lt_of_heap h.rv)).trans h.rv, h.low, h.ds, fun i b hi => by
    obtain ⟨v, h1, h2⟩ := h.ent i b hi
    exact ⟨v, h1, h2.same (fun g hg _ _ _ => hb.block g hg)⟩, h.len⟩

/-- Another block of one's own has changed. -/
theorem RefW.other (h : RefW w W mb eb rb cnt n left ends runs vs) {row : Option Nat} (hg : W.grownBy W' row) (hr : ∀ q, row = some q → w.heap.size ≤ q ∧ q ≠ mb ∧ q ≠ eb ∧ q ≠ rb) (he : ∀ (i : Nat) b v, runs[i]? = some b → vs[i]? = some v → 0 ≤ b → v.ownBlock ≠ row) : RefW w W' mb eb rb cnt n left ends runs vs := by
  have keep : ∀ q, q < W.heap.size → some q ≠ row → W'.heap[q]? = W.heap[q]? := fun q hq hne => hg.block q hq hne
  have n1 : some mb ≠ row := fun e => (hr mb e.symm).2.1 rfl
  have n2 : some eb ≠ row := fun e => (hr eb e.symm).2.2.1 rfl
  have n3 : some rb ≠ row := fun e => (hr rb e.symm).2.2.2 rfl
  refine ⟨h.bel.trans (grownBy_below hg h.bel.size (fun q e => (hr q e).1)), h.map.kept hg n1, (keep _ (lt_of_heap h.ev) n2).trans h.ev, (keep _ (lt_of_heap h.rv) n3).trans h.rv, h.low, h.ds, fun i b hi => ?_, h.len⟩
  obtain ⟨v, h1, h2⟩ := h.ent i b hi
  refine ⟨v, h1, ?_⟩
  rcases h2 with h2 | ⟨h0, g, c, e1, e2, e3, e4, e5⟩
  · exact .inl h2
  · refine .inr ⟨h0, g, c, e1, ?_, e3, e4, e5⟩
    have hgl : g < W.heap.size := World.block_lt_of_cell? _ _ e2
    have hne : some g ≠ row := fun e => he i b v hi h1 h0 (by rw [e1]; exact e)
    unfold World.cell? at e2 ⊢
    rw [keep g hgl hne]
    exact e2

theorem RefW.putMap (h : RefW w W mb eb rb cnt n left ends runs vs) (hm : MapW W' mb cnt' left') (hg : W.grownBy W' (some mb)) : RefW w W' mb eb rb cnt' n left' ends runs vs := by
  have keep : ∀ q, q < W.heap.size → q ≠ mb → W'.heap[q]? = W.heap[q]? := fun q hq hne => hg.block q hq (fun e => hne (Option.some.inj e))
  refine ⟨h.bel.trans (grownBy_below hg h.bel.size (fun q e => by cases e; exact h.low.1)), hm, (keep _ (lt_of_heap h.ev) (Ne.symm h.ds.1)).trans h.ev, (keep _ (lt_of_heap h.rv) (Ne.symm h.ds.2.1)).trans h.rv, h.low, h.ds, fun i b hi => ?_, h.len⟩
  obtain ⟨v, h1, h2⟩ := h.ent i b hi
  exact ⟨v, h1, h2.same (fun g hgl hne _ _ => keep g hgl hne)⟩

theorem map_setCell {b i : Nat} {u : Value} (h : MapW W mb cnt left) (hne : mb ≠ b) : MapW (W.setCell ⟨b, i, none⟩ u) mb cnt left :=
  h.kept (row := some b) ⟨rfl, rfl, rfl, by simp, fun q _ hq => Below.heap_setCell _ _ _ _ (fun e => hq (by rw [show q = b from e]))⟩ (fun e => hne (Option.some.inj e))

theorem RefW.setE (h : RefW w W mb eb rb cnt n left ends runs vs) {i : Nat} {v : Int} : RefW w (W.setCell ⟨eb, i, none⟩ (.int .i64 v)) mb eb rb cnt n left (ends.set i v) runs vs := by
  have keep : ∀ q, q ≠ eb → (W.setCell ⟨eb, i, none⟩ (.int .i64 v)).heap[q]? = W.heap[q]? := fun q hq => Below.heap_setCell _ _ _ _ hq
  refine ⟨h.bel.setCell h.low.2.1 _, map_setCell h.map h.ds.1, ?_, (keep _ (Ne.symm h.ds.2.2)).trans h.rv, h.low, h.ds, fun j b hj => ?_, h.len⟩
  · rw [setCell_list h.ev, List.map_set]
  · obtain ⟨u, h1, h2⟩ := h.ent j b hj
    exact ⟨u, h1, h2.same (fun g _ _ hne _ => keep g hne)⟩

theorem RefW.setR (h : RefW w W mb eb rb cnt n left ends runs vs) {v : Value} {b : Int} (hl : runs.length < n) (hv : EntW W mb eb rb v b) : RefW w (W.setCell ⟨rb, runs.length, none⟩ v) mb eb rb cnt n left ends (runs ++ [b]) (vs.set runs.length v) := by
  have keep : ∀ q, q ≠ rb → (W.setCell ⟨rb, runs.length, none⟩ v).heap[q]? = W.heap[q]? := fun q hq => Below.heap_setCell _ _ _ _ hq
  refine ⟨h.bel.setCell h.low.2.2 _, map_setCell h.map h.ds.2.1, (keep _ h.ds.2.2).trans h.ev, ?_, h.low, h.ds, fun j c hj => ?_, by rw [List.length_set]; exact h.len⟩
  · rw [setCell_list h.rv]
  · by_cases hjl : j < runs.length
    · rw [List.getElem?_append_left hjl] at hj
      obtain ⟨u, h1, h2⟩ := h.ent j c hj
      refine ⟨u, ?_, h2.same (fun g _ _ _ hne => keep g hne)⟩
      rw [List.getElem?_set, if_neg (by omega)]
      exact h1
    · have hje : j = runs.length := by
        have := (List.getElem?_eq_some_iff.1 hj).1
        simp at this
        omega
      subst hje
      rw [List.getElem?_append_right (Nat.le_refl _)] at hj
      simp at hj
      subst hj
      refine ⟨v, ?_, hv.same (fun g _ _ _ hne => keep g hne)⟩
      rw [List.getElem?_set, if_pos rfl, if_pos (by rw [h.len]; exact hl)]
end

/-- The beginning: a map and a list that are being filled. -/
structure IniW (w W : World) (mb eb cnt : Nat) (left : List Int) (ec : List Value) : Prop where
  bel : Below w.heap.size w W
  map : MapW W mb cnt left
  ev : W.heap[eb]? = some (.cells ec.toArray 3 (0, 0))
  low : w.heap.size ≤ mb ∧ w.heap.size ≤ eb
  ds : mb ≠ eb

theorem IniW.grow {w W W' : World} {mb eb cnt : Nat} {left : List Int} {ec : List Value} (h : IniW w W mb eb cnt left ec) (hb : Below W.heap.size W W') : IniW w W' mb eb cnt left ec :=
  ⟨below_seq h.bel hb, h.map.kept (grown_of_below hb) (by simp), (hb.block _ (lt_of_heap h.ev)).trans h.ev, h.low, h.ds⟩
theorem IniW.putMap {w W W' : World} {mb eb cnt cnt' : Nat} {left left' : List Int} {ec : List Value} (h : IniW w W mb eb cnt left ec) (hm : MapW W' mb cnt' left') (hg : W.grownBy W' (some mb)) : IniW w W' mb eb cnt' left' ec :=
  ⟨h.bel.trans (grownBy_below hg h.bel.size (fun q e => by cases e; exact h.low.1)), hm, (hg.block _ (lt_of_heap h.ev) (fun e => h.ds (Option.some.inj e).symm)).trans h.ev, h.low, h.ds⟩
theorem IniW.setE {w W : World} {mb eb cnt : Nat} {left : List Int} {ec : List Value} {i : Nat} {u : Value} (h : IniW w W mb eb cnt left ec) : IniW w (W.setCell ⟨eb, i, none⟩ u) mb eb cnt left (ec.set i u) :=
  ⟨h.bel.setCell h.low.2 _, map_setCell h.map h.ds, setCell_list h.ev, h.low, h.ds⟩

/- The list of those that are there, as the document makes it. -/
structure Sorted (l : List Jb) (pol : Int) (left : List Int) (t : Int) (i : Nat) (th : List Nat) : Prop where
  srt : th.Pairwise (lexJ pol l)
  mem : ∀ j, j ∈ th ↔ j < i ∧ (J l j).a ≤ t ∧ 0 < L left j

theorem Sorted.skip {l : List Jb} {pol : Int} {left : List Int} {t : Int} {i : Nat} {th : List Nat} (h : Sorted l pol left t i th) (hn : ¬ ((J l i).a ≤ t ∧ 0 < L left i)) : Sorted l pol left t (i + 1) th :=
  ⟨h.srt, fun j => by
    rw [h.mem]
    constructor
    · rintro ⟨a, b⟩; exact ⟨by omega, b⟩
    · rintro ⟨a, b⟩
      refine ⟨?_, b⟩
      rcases Nat.lt_or_ge j i with g | g
      · exact g
      · have : j = i := by omega
        subst this
        exact absurd b hn⟩

theorem Sorted.ins {l : List Jb} {pol : Int} {left : List Int} {t : Int} {i k : Nat} {th : List Nat} (h : Sorted l pol left t i th) (hi : (J l i).a ≤ t ∧ 0 < L left i) (hk : k ≤ th.length) (h1 : ∀ q x, k ≤ q → th[q]? = some x → lexJ pol l i x) (h2 : ∀ x, 0 < k → th[k - 1]? = some x → ¬ lexJ pol l i x) : Sorted l pol left t (i + 1) (th.take k ++ i :: th.drop k) := by
  have hlt : ∀ x ∈ th, x < i := fun x hx => ((h.mem x).1 hx).1
  have hdr : ∀ x ∈ th.drop k, lexJ pol l i x := fun x hx => by
    obtain ⟨q, hq⟩ := List.getElem?_of_mem hx
    rw [List.getElem?_drop] at hq
    exact h1 (k + q) x (by omega) hq
  have htk : ∀ x ∈ th.take k, lexJ pol l x i := fun x hx => by
    have hk0 : 0 < k := by
      rcases Nat.eq_zero_or_pos k with e | e
      · subst e; simp at hx
      · exact e
    obtain ⟨y, hy⟩ : ∃ y, th[k - 1]? = some y := ⟨th[k - 1], List.getElem?_eq_getElem (by omega)⟩
    have hyi : lexJ pol l y i := lexJ_total (by have := hlt y (List.mem_of_getElem? hy); omega) (h2 y hk0 hy)
    obtain ⟨q, hq⟩ := List.getElem?_of_mem hx
    have hqk : q < k := by
      have := (List.getElem?_eq_some_iff.1 hq).1
      simp at this
      omega
    rw [List.getElem?_take_of_lt hqk] at hq
    rcases Nat.lt_or_ge q (k - 1) with g | g
    · obtain ⟨a1, a2⟩ := List.getElem?_eq_some_iff.1 hq
      obtain ⟨b1, b2⟩ := List.getElem?_eq_some_iff.1 hy
      have := List.pairwise_iff_getElem.1 h.srt q (k - 1) a1 b1 g
      rw [a2, b2] at this
      exact lexJ_trans this hyi
    · have : q = k - 1 := by omega
      subst this
      rw [hq] at hy
      cases hy
      exact hyi
  refine ⟨?_, fun j => ?_⟩
  · rw [List.pairwise_append]
    refine ⟨h.srt.take, List.pairwise_cons.2 ⟨hdr, h.srt.drop⟩, fun x hx y hy => ?_⟩
    rcases List.mem_cons.1 hy with rfl | hy
    · exact htk x hx
    · exact lexJ_trans (htk x hx) (hdr y hy)
  · have hm : j ∈ th.take k ++ i :: th.drop k ↔ j = i ∨ j ∈ th := by
      rw [List.mem_append, List.mem_cons]
      have e : j ∈ th ↔ j ∈ th.take k ∨ j ∈ th.drop k := by rw [← List.mem_append, List.take_append_drop]
      rw [e]
      constructor
      · rintro (a | a | a)
        · exact .inr (.inl a)
        · exact .inl a
        · exact .inr (.inr a)
      · rintro (a | a | a)
        · exact .inr (.inl a)
        · exact .inl a
        · exact .inr (.inr a)
    rw [hm, h.mem]
    constructor
    · rintro (rfl | ⟨a, b⟩)
      · exact ⟨by omega, hi⟩
      · exact ⟨by omega, b⟩
    · rintro ⟨a, b⟩
      rcases Nat.lt_or_ge j i with g | g
      · exact .inr ⟨g, b⟩
      · exact .inl (by omega)

/-- The place of the foremost one. -/
def fore : List Nat → Int
  | [] => -1
  | p :: _ => (p : Int)

/-- The first one of them is the one that goes first. -/
theorem Sorted.best {l : List Jb} {pol : Int} {left : List Int} {t : Int} {th : List Nat} (h : Sorted l pol left t l.length th) : IsBest l pol left t (fore th) := by
  cases th with
  | nil =>
    refine .inl ⟨rfl, fun i hi ⟨a, b⟩ => ?_⟩
    have := (h.mem i).2 ⟨hi, a, b⟩
    simp at this
  | cons p r =>
    obtain ⟨a, b, c⟩ := (h.mem p).1 List.mem_cons_self
    refine .inr ⟨p, rfl, a, b, c, fun j hj g1 g2 hne => ?_⟩
    have hm := (h.mem j).2 ⟨hj, g1, g2⟩
    rcases List.mem_cons.1 hm with rfl | hm
    · exact absurd rfl hne
    · exact (List.pairwise_cons.1 h.srt).1 j hm

/-- A tick in which no core is there. -/
theorem RefW.idle {w W : World} {mb eb rb cnt n : Nat} {left ends runs : List Int} {vs : List Value} (h : RefW w W mb eb rb cnt n left ends runs vs) (hv : vs[runs.length]? = some (.slice none 0 0)) : RefW w W mb eb rb cnt n left ends (runs ++ [-1]) vs :=
  ⟨h.bel, h.map, h.ev, h.rv, h.low, h.ds, fun i b hi => by
    rcases Nat.lt_or_ge i runs.length with hlt | hge
    · rw [List.getElem?_append_left hlt] at hi
      exact h.ent i b hi
    · rw [List.getElem?_append_right hge] at hi
      have e : i = runs.length := by
        have := (List.getElem?_eq_some_iff.1 hi).1
        simp at this
        omega
      subst e
      simp at hi
      subst hi
      exact ⟨_, hv, .inl ⟨rfl, _, _, rfl⟩⟩, h.len⟩

def PickP (l : List Jb) (op : Nat → Bool) (pol : Int) (pre : Bool) (t : Nat) (s : St) (b : Int) : Prop := (op t = false ∧ b = -1) ∨ (op t = true ∧ Pick l pol pre t s b)

def PlaysP (l : List Jb) (op : Nat → Bool) (pol : Int) (pre : Bool) : Nat → St → Prop
  | 0, s => s = St.init l
  | t + 1, s => ∃ s0 b, PlaysP l op pol pre t s0 ∧ PickP l op pol pre t s0 b ∧ s = s0.after t b

theorem playsP_ok {l : List Jb} {op : Nat → Bool} {pol : Int} {pre : Bool} (hl : ∀ x ∈ l, okJ x) : ∀ (t : Nat) (s : St), PlaysP l op pol pre t s → Ok l t s
  | 0, s, h => by rw [show s = _ from h]; exact ok_init hl
  | t + 1, s, ⟨s0, b, h1, h2, h3⟩ => by
    rw [h3]
    have h := playsP_ok hl t s0 h1
    rcases h2 with ⟨-, rfl⟩ | ⟨-, h2⟩
    · have e : s0.after t (-1) = ⟨s0.left, s0.ends, s0.runs ++ [-1]⟩ := rfl
      rw [e]
      exact ⟨h.left, h.ends, by simp [h.runs], h.nneg, h.small, fun r hr => by
        rcases List.mem_append.1 hr with hr | hr
        · exact h.rng r hr
        · simp at hr; exact .inl hr⟩
    · exact ok_after h h2
end Go.Proofs.YtccoobcggbbciaiGreatDoor.S8
namespace Go.Proofs.YtccoobcggbbciaiGreatDoor.S8
open Go.ChangeShapes Go.WideShapes Go.ChangeAt Go.RowKit

theorem Own.take {W : World} {B g cap k : Nat} {th : List Int} (h : Own W B (.slice (some ⟨g, 0, none⟩) th.length cap) th) (hk : k ≤ th.length) : Own W B (.slice (some ⟨g, 0, none⟩) k cap) (th.take k) := by
  rcases h.cases with ⟨e, -⟩ | ⟨g', cap', cur, e, hB, hg, hcap, hm, hs, hcur⟩
  · cases e
  · cases e
    refine Own.mk (rest := (th.map (Value.int .i64)).drop k ++ cur.toList.drop th.length) (by simp; omega) hB hg (by omega) hm hs ?_
    rw [← List.append_assoc, List.map_take, List.take_append_drop]
    exact hcur

theorem own_one (W : World) (i : Int) : (W.alloc (.cells #[.int .i64 i] 3)).ownsRow W.heap.size 3 1 (.slice (some ⟨W.heap.size, 0, none⟩) 1 1) 1 [.int .i64 i] :=
  ⟨rfl, .inr ⟨W.heap.size, 1, _, rfl, Nat.le_refl _, heap_alloc_new _ _, Nat.le_refl _, by unfold maxLen; omega, rfl, rfl⟩⟩

/-- A list with one more, put in at a place: as the document does it. -/
theorem ins_run (W : World) (B g cap k : Nat) (th : List Int) (i : Int) (h : Own W B (.slice (some ⟨g, 0, none⟩) th.length cap) th) (hk : k ≤ th.length) (hl : th.length ≤ 100000) :
    ∃ ad1 n1 c1 W2 ad2 n2 c2 W3, (Builtin.append_ #[24, 24] 24 #[.slice (some ⟨W.heap.size, 0, none⟩) 1 1, .slice (if cap = k then some ⟨g, 0, none⟩ else some ⟨g, k, none⟩) (th.length - k) (cap - k)]).run Tryz.prog (W.alloc (.cells #[.int .i64 i] 3)) = .ok (.slice ad1 n1 c1) W2 ∧ (Builtin.append_ #[24, 24] 24 #[.slice (some ⟨g, 0, none⟩) k cap, .slice ad1 n1 c1]).run Tryz.prog W2 = .ok (.slice ad2 n2 c2) W3 ∧ Own W3 B (.slice ad2 n2 c2) (th.take k ++ i :: th.drop k) ∧ W.grownBy W3 (some g) := by
  obtain ⟨i0, hi0, hz0, hz1, hz2⟩ := info_parts info3
  have hgl := (h.low (g := g) rfl)
  have hb1 := below_new W (.cells #[.int .i64 i] 3)
  have hs1 : (W.alloc (.cells #[.int .i64 i] 3)).heap.size = W.heap.size + 1 := by simp
  have hO1 : Own (W.alloc (.cells #[.int .i64 i] 3)) B (.slice (some ⟨g, 0, none⟩) th.length cap) th := h.same (fun q e => by cases e; exact hb1.block g hgl.2)
  have hcap : th.length ≤ cap := by
    rcases h.cases with ⟨e, -⟩ | ⟨g', cap', cur, e, _, _, hc, _⟩
    · cases e
    · cases e; exact hc
  have hsrc : (if cap = k then some (⟨g, 0, none⟩ : Addr) else some ⟨g, k, none⟩) = some (if cap = k then ⟨g, 0, none⟩ else ⟨g, k, none⟩) := by split <;> rfl
  rw [hsrc]
  obtain ⟨v1, W2, hr1, ho1, hg1, -, hv1⟩ := run_append_own_at (P := Tryz.prog) (w := W.alloc (.cells #[.int .i64 i] 3)) W.heap.size 24 24 3 i0 _ 1 8 Tryz.underlying24 hi0 hz0 hz1 hz2 rfl (by decide) _ 1 [.int .i64 i] (own_one W i) (if cap = k then ⟨g, 0, none⟩ else ⟨g, k, none⟩) (th.length - k) (cap - k) ((th.drop k).map (Value.int .i64)) (by simp) (fun j u hj => by
    have hj1 := (List.getElem?_eq_some_iff.1 hj).1
    rw [List.length_map, List.length_drop] at hj1
    rw [if_neg (by omega), Addr.add_lit]
    rw [List.getElem?_map, List.getElem?_drop] at hj
    cases hz : th[k + j]? with
    | none => rw [hz] at hj; simp at hj
    | some z =>
      rw [hz] at hj
      simp at hj
      subst hj
      exact hO1.cell hz) (fun u hu => by obtain ⟨z, -, rfl⟩ := List.mem_map.1 hu; rfl) (by unfold maxLen; omega) (by omega) (by omega)
  obtain ⟨ad1, c1, rfl⟩ := owns_value ho1
  have hO2 : Own W2 B (.slice (some ⟨g, 0, none⟩) k cap) (th.take k) := (hO1.take hk).same (fun q e => by cases e; exact hg1.block g (by omega) (fun e => by have h9 : g = W.heap.size := Option.some.inj e; omega))
  obtain ⟨-, ⟨e, en⟩ | ⟨q, cp, cur, e, hq1, hq2, hq3, hq4, hq5, hq6⟩⟩ := ho1
  · omega
  · cases e
    have hcell : ∀ j u, ([Value.int .i64 i] ++ (th.drop k).map (Value.int .i64))[j]? = some u → W2.cell? ((⟨q, 0, none⟩ : Addr).add j) = some u := fun j u hj => by
      rw [Addr.add_lit, Nat.zero_add]
      rw [← hq6] at hj
      have hjl := (List.getElem?_eq_some_iff.1 hj).1
      rw [List.length_take] at hjl
      rw [List.getElem?_take_of_lt (by omega)] at hj
      unfold World.cell?
      rw [hq2]
      simpa using hj
    obtain ⟨v2, W3, hr2, ho2, hg2, -, hv2⟩ := run_append_own_at (P := Tryz.prog) (w := W2) B 24 24 3 i0 _ 1 8 Tryz.underlying24 hi0 hz0 hz1 hz2 rfl (by decide) (.slice (some ⟨g, 0, none⟩) k cap) k ((th.take k).map (Value.int .i64)) (by have := hO2; unfold Own at this; rwa [List.length_take, Nat.min_eq_left hk] at this) ⟨q, 0, none⟩ (1 + (th.length - k)) c1 ([Value.int .i64 i] ++ (th.drop k).map (Value.int .i64)) (by simp; omega) hcell (fun u hu => by
      rcases List.mem_append.1 hu with hu | hu
      · simp at hu; subst hu; rfl
      · obtain ⟨z, -, rfl⟩ := List.mem_map.1 hu; rfl) (by unfold maxLen; omega) (by omega) (by have := hg1.size; omega)
    obtain ⟨ad2, c2, rfl⟩ := owns_value ho2
    refine ⟨_, _, _, W2, _, _, _, W3, hr1, hr2, ?_, ?_⟩
    · unfold Own
      rw [show (th.take k ++ i :: th.drop k).length = k + (1 + (th.length - k)) by simp; omega, show (th.take k ++ i :: th.drop k).map (Value.int .i64) = (th.take k).map (Value.int .i64) ++ ([Value.int .i64 i] ++ (th.drop k).map (Value.int .i64)) by simp]
      exact ho2
    · have s1 := hg1.size
      refine ⟨hg2.os.trans hg1.os, hg2.tape.trans hg1.tape, hg2.output.trans hg1.output, by have := hg2.size; omega, fun p hp hne => ?_⟩
      exact ((hg2.block p (by omega) hne).trans (hg1.block p (by omega) (fun e => by have h9 : p = W.heap.size := Option.some.inj e; omega))).trans (hb1.block p hp)

/-- An append whose run is known, as a step of a region. -/
theorem region_append_at {P : Program} {ops : Array Oper} {o : Oper} {lst : List Value} {ds : List Deferred} {w : World} {K : Act → World → Prop} {Q : Exit → Act → World → Prop} {E : Prop} (hg : o.guard = none) (nd : Nat) (hnd : o.dst = some nd) (s x : Operand) (t : TypeId) (hop : o.op = Op.call { callee := .builtin .append, args := #[s, x], argTypes := #[t, t] }) {v u v' : Value} {w' : World} (hs : (Act.mk lst.toArray ds).eval s = v) (hx : (Act.mk lst.toArray ds).eval x = u) (hrun : (Builtin.append_ #[t, t] o.type #[v, u]).run P w = .ok v' w') (hK : K ⟨(lst.set nd v').toArray, ds⟩ w') :
    if Region.wanted o (yielded ops (Act.mk lst.toArray ds).tmps) = true then Oper.wp P o ⟨lst.toArray, ds⟩ w K Q else E := by
  have hw : Region.wanted o (yielded ops (Act.mk lst.toArray ds).tmps) = true := by simp [Region.wanted, hg]
  rw [if_pos hw]
  have ep : Act.put ⟨lst.toArray, ds⟩ o.dst v' = ⟨(lst.set nd v').toArray, ds⟩ := by rw [hnd]; simp [Act.put]
  rw [← ep] at hK
  unfold Oper.wp
  simp [execOp, hop, resolve, invoke, builtin, hs, hx, hrun, Result.andThen]
  exact hK

/-- The first one. -/
theorem ins_run0 (W : World) (B : Nat) (i : Int) (hB : B ≤ W.heap.size) :
    (Builtin.append_ #[24, 24] 24 #[.slice (some ⟨W.heap.size, 0, none⟩) 1 1, .slice none 0 0]).run Tryz.prog (W.alloc (.cells #[.int .i64 i] 3)) = .ok (.slice (some ⟨W.heap.size, 0, none⟩) 1 1) (W.alloc (.cells #[.int .i64 i] 3)) ∧ ∃ ad2 n2 c2 W3, (Builtin.append_ #[24, 24] 24 #[.slice none 0 0, .slice (some ⟨W.heap.size, 0, none⟩) 1 1]).run Tryz.prog (W.alloc (.cells #[.int .i64 i] 3)) = .ok (.slice ad2 n2 c2) W3 ∧ Own W3 B (.slice ad2 n2 c2) [i] ∧ W.grownBy W3 none := by
  obtain ⟨i0, hi0, hz0, hz1, hz2⟩ := info_parts info3
  refine ⟨run_append_owned_none _ W.heap.size 24 24 3 i0 1 Tryz.underlying24 hi0 _ 1 _ (own_one W i), ?_⟩
  obtain ⟨v2, W3, hr2, ho2, hg2, -, -⟩ := run_append_own_at (P := Tryz.prog) (w := W.alloc (.cells #[.int .i64 i] 3)) B 24 24 3 i0 _ 1 8 Tryz.underlying24 hi0 hz0 hz1 hz2 rfl (by decide) (.slice none 0 0) 0 [] ⟨rfl, .inl ⟨rfl, rfl⟩⟩ ⟨W.heap.size, 0, none⟩ 1 1 [.int .i64 i] rfl (fun j u hj => by
    rw [Addr.add_lit, Nat.zero_add]
    exact (cells_of (l := [_]) (heap_alloc_new W (.cells #[.int .i64 i] 3))).1 j u hj) (fun u hu => by simp at hu; subst hu; rfl) (by unfold maxLen; omega) (by omega) (by simp; omega)
  obtain ⟨ad2, c2, rfl⟩ := owns_value ho2
  refine ⟨_, _, _, W3, hr2, ho2, ?_⟩
  have hg0 := World.grownBy_alloc W (.cells #[.int .i64 i] 3) none
  exact grownBy_seq hg0 hg2
end Go.Proofs.YtccoobcggbbciaiGreatDoor.S8
