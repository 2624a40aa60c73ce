import Derived.Test.YtdhnjemgnlklkajDoorPV
import Derived.Maps.OwnOps
import Derived.Maps.Views
import Derived.Maps.Keyed
import Derived.Test.YtdhnjemgnlklkajDoorQA
import Derived.Test.YtdhnjemgnlklkajDoorPP
namespace Go.Proofs.YtdhnjemgnlklkajDoor
open Go.ChangeShapes Go.WideShapes Go.ChangeAt Go.RowKit

theorem law3 : Go.Maps.Keyed Tryd.prog 3 := Go.Maps.int_keyed Tryd.underlying3

theorem zero3 (w : World) : (zeroValue 3).run Tryd.prog w = .ok (.int .i64 0) w := by kernel_rfl

/-- A map of numbers to numbers. -/
def MapW (W : World) (b cnt : Nat) (left : List Int) : Prop := ∃ D : DataW Unit, W.ownsMap Tryd.prog 3 (plainElem Tryd.prog 3) b cnt D ∧ Go.Maps.IsMap D ∧ ∀ i : Nat, i ≤ 1000000 → D.atKey (.int .i64 (i : Int)) (.lit (.int .i64 0)) = .lit (.int .i64 (L left i))

theorem wfI {z : Int} (h : -1000000000 ≤ z) (h' : z ≤ 1000000000) : (Lit.int .i64 z).wf = true := by
  have h1 : IntKind.i64.min = -9223372036854775808 := rfl
  have h2 : IntKind.i64.max = 9223372036854775807 := rfl
  simp [Lit.wf, h1, h2]
  omega

theorem MapW.start (w : World) : MapW (w.alloc (.map #[] 0)) w.heap.size 0 [] :=
  ⟨.map [], World.ownsMap_made _ _ _ _, ⟨[], rfl⟩, fun _ _ => rfl⟩

theorem MapW.kept {W W' : World} {b cnt : Nat} {left : List Int} {row : Option Nat} (h : MapW W b cnt left) (hg : W.grownBy W' row) (hne : some b ≠ row) : MapW W' b cnt left := by
  obtain ⟨D, h1, h2, h3⟩ := h
  exact ⟨D, h1.kept hg hne, h2, h3⟩

theorem MapW.lt {W : World} {b cnt : Nat} {left : List Int} (h : MapW W b cnt left) : b < W.heap.size := by
  obtain ⟨D, h1, -⟩ := h
  exact h1.lt

theorem MapW.get {W : World} {b cnt : Nat} {left : List Int} (h : MapW W b cnt left) (i : Nat) (hi : i ≤ 1000000) : (Instr.lookup 85 (.map (some b)) (.int .i64 (i : Int)) false).run Tryd.prog W = .ok (.int .i64 (L left i)) W := by
  obtain ⟨D, h1, h2, h3⟩ := h
  obtain ⟨c, hrun, hat, -⟩ := h1.lookup_int law3 Tryd.underlying85 Tryd.underlying3 (zero3 _) (Go.Maps.keyOf_int_mk Tryd.underlying3 (a := (i : Int)) (wfI (by omega) (by omega)))
  rw [h3 i hi] at hat
  simp only [DataW.lit.injEq, Lit.int.injEq, true_and] at hat
  rw [hrun, ← hat]

theorem MapW.put {W : World} {b cnt : Nat} {left left' : List Int} (h : MapW W b cnt left) (i : Nat) (v : Int) (hi : i ≤ 1000000) (hv : -1000000000 ≤ v) (hv' : v ≤ 1000000000) (hc : cnt ≤ 1000000) (he : ∀ j, L left' j = if j = i then v else L left j) :
    ∃ W', (Instr.mapUpdate 85 (.map (some b)) (.int .i64 (i : Int)) (.int .i64 v)).run Tryd.prog W = .ok () W' ∧ MapW W' b (cnt + 1) left' ∧ W.grownBy W' (some b) := by
  obtain ⟨D, h1, h2, h3⟩ := h
  obtain ⟨W', hrun, ho, hg⟩ := h1.update law3 Tryd.underlying85 (by unfold maxLen; omega) (Go.Maps.keyOf_int_mk Tryd.underlying3 (a := (i : Int)) (wfI (by omega) (by omega))) (plainElem_int Tryd.underlying3 (wfI hv hv'))
  refine ⟨W', hrun, ⟨_, ho, ?_, fun j hj => ?_⟩, hg⟩
  · obtain ⟨es, rfl⟩ := h2
    exact ⟨_, rfl⟩
  · by_cases hji : j = i
    · rw [hji, Go.Maps.atKey_put_same (k := .int .i64 (i : Int)) h2 trivial, he, if_pos rfl]
    · rw [Go.Maps.atKey_put_other (by intro e; simp only [Lit.int.injEq, true_and] at e; omega), h3 j hj, he, if_neg hji]

theorem Always_any (w : World) (t : Int) : Calls Tryd.prog 49 #[.int .i64 t] w fun r w' => r = .returned (.bool true) ∧ w' = w := by
  go_enter Tryd.func49, Tryd.ntmps49
  go_wp2_with fail
  go_ret
  exact ⟨rfl, rfl⟩
end Go.Proofs.YtdhnjemgnlklkajDoor
namespace Go.Proofs.YtdhnjemgnlklkajDoor
open Go.ChangeShapes Go.WideShapes Go.ChangeAt Go.RowKit

theorem info26 : (Tryd.prog.info? 28).map (fun i => (i.zero, i.size, i.bytes)) = some (some (.slice none 0 0), 1, 24) := by kernel_rfl

theorem made_nil (n : Nat) : madeCells (Value.slice none 0 0).cells (n * 1) = (List.replicate n (Value.slice none 0 0)).toArray := by
  apply Array.ext
  · simp [madeCells]
  · intro i h1 h2
    simp [madeCells, Value.cells, Nat.mod_one]

theorem make_rows (W : World) (n : Nat) (hn : n ≤ 1000000) : ∃ W', (Instr.makeSlice 76 (.int .i64 (n : Int)) (.int .i64 (n : Int))).run Tryd.prog W = .ok (.slice (some ⟨W.heap.size, 0, none⟩) n n) W' ∧ Below W.heap.size W W' ∧ W'.heap[W.heap.size]? = some (.cells (List.replicate n (Value.slice none 0 0)).toArray 28 (0, 0)) := by
  obtain ⟨i0, hi0, hz0, hz1, hz2⟩ := info_parts info26
  have h := run_make (P := Tryd.prog) W 76 28 i0 _ Tryd.underlying76 hi0 hz0 .i64 .i64 (n : Int) (n : Int) (by omega) (by omega) (by rw [hz2]; omega) (by omega)
  rw [Int.toNat_natCast, hz1, made_nil] at h
  exact ⟨_, h, below_new _ _, heap_alloc_new _ _⟩

/-- What ran in a tick, as it lies. -/
def EntW (W : World) (mb eb rb : Nat) (v : Value) (b : Int) : Prop := (b = -1 ∧ ∃ ad c, v = .slice ad 0 c) ∨ (0 ≤ b ∧ ∃ g c, v = .slice (some ⟨g, 0, none⟩) 1 c ∧ W.cell? ⟨g, 0, none⟩ = some (.int .i64 b) ∧ g ≠ mb ∧ g ≠ eb ∧ g ≠ rb)

/-- The document's player, as it lies. -/
structure RefW (w W : World) (mb eb rb cnt n : Nat) (left ends runs : List Int) (vs : List Value) : Prop where
  bel : Below w.heap.size w W
  map : MapW W mb cnt left
  ev : W.heap[eb]? = some (.cells (ends.map (Value.int .i64)).toArray 3 (0, 0))
  rv : W.heap[rb]? = some (.cells vs.toArray 28 (0, 0))
  low : w.heap.size ≤ mb ∧ w.heap.size ≤ eb ∧ w.heap.size ≤ rb
  ds : mb ≠ eb ∧ mb ≠ rb ∧ eb ≠ rb
  ent : ∀ (i : Nat) b, runs[i]? = some b → ∃ v, vs[i]? = some v ∧ EntW W mb eb rb v b
  len : vs.length = n

section

variable {w W W' : World} {mb eb rb cnt cnt' n : Nat} {left left' ends ends' runs runs' : List Int} {vs vs' : List Value}

theorem EntW.same {v : Value} {b : Int} (h : EntW W mb eb rb v b) (hk : ∀ g, g < W.heap.size → g ≠ mb → g ≠ eb → g ≠ rb → W'.heap[g]? = W.heap[g]?) : EntW W' mb eb rb v b := by
  rcases h with h | ⟨h0, g, c, h1, h2, h3, h4, h5⟩
  · exact .inl h
  · refine .inr ⟨h0, g, c, h1, ?_, h3, h4, h5⟩
    have hg : g < W.heap.size := World.block_lt_of_cell? _ _ h2
    unfold World.cell? at h2 ⊢
    rw [hk g hg h3 h4 h5]
    exact h2

theorem grown_of_below (hb : Below W.heap.size W W') : W.grownBy W' none := ⟨hb.os, hb.tape, hb.output, hb.size, fun i hi _ => hb.block i hi⟩

theorem RefW.grow (h : RefW w W mb eb rb cnt n left ends runs vs) (hb : Below W.heap.size W W') : RefW w W' mb eb rb cnt n left ends runs vs :=
  ⟨below_seq h.bel hb, h.map.kept (grown_of_below hb) (by simp), (hb.block _ (lt_of_heap h.ev)).trans h.ev, (hb.block _ (lt_of_heap h.rv)).trans h.rv, h.low, h.ds, fun i b hi => by
    obtain ⟨v, h1, h2⟩ := h.ent i b hi
    exact ⟨v, h1, h2.same (fun g hg _ _ _ => hb.block g hg)⟩, h.len⟩

/-- Another block of one's own has changed. -/
theorem RefW.other (h : RefW w W mb eb rb cnt n left ends runs vs) {row : Option Nat} (hg : W.grownBy W' row) (hr : ∀ q, row = some q → w.heap.size ≤ q ∧ q ≠ mb ∧ q ≠ eb ∧ q ≠ rb) (he : ∀ (i : Nat) b v, runs[i]? = some b → vs[i]? = some v → 0 ≤ b → v.ownBlock ≠ row) : RefW w W' mb eb rb cnt n left ends runs vs := by
  have keep : ∀ q, q < W.heap.size → some q ≠ row → W'.heap[q]? = W.heap[q]? := fun q hq hne => hg.block q hq hne
  have n1 : some mb ≠ row := fun e => (hr mb e.symm).2.1 rfl
  have n2 : some eb ≠ row := fun e => (hr eb e.symm).2.2.1 rfl
  have n3 : some rb ≠ row := fun e => (hr rb e.symm).2.2.2 rfl
  refine ⟨h.bel.trans (grownBy_below hg h.bel.size (fun q e => (hr q e).1)), h.map.kept hg n1, (keep _ (lt_of_heap h.ev) n2).trans h.ev, (keep _ (lt_of_heap h.rv) n3).trans h.rv, h.low, h.ds, fun i b hi => ?_, h.len⟩
  obtain ⟨v, h1, h2⟩ := h.ent i b hi
  refine ⟨v, h1, ?_⟩
  rcases h2 with h2 | ⟨h0, g, c, e1, e2, e3, e4, e5⟩
  · exact .inl h2
  · refine .inr ⟨h0, g, c, e1, ?_, e3, e4, e5⟩
    have hgl : g < W.heap.size := World.block_lt_of_cell? _ _ e2
    have hne : some g ≠ row := fun e => he i b v hi h1 h0 (by rw [e1]; exact e)
    unfold World.cell? at e2 ⊢
    rw [keep g hgl hne]
    exact e2

theorem RefW.putMap (h : RefW w W mb eb rb cnt n left ends runs vs) (hm : MapW W' mb cnt' left') (hg : W.grownBy W' (some mb)) : RefW w W' mb eb rb cnt' n left' ends runs vs := by
  have keep : ∀ q, q < W.heap.size → q ≠ mb → W'.heap[q]? = W.heap[q]? := fun q hq hne => hg.block q hq (fun e => hne (Option.some.inj e))
  refine ⟨h.bel.trans (grownBy_below hg h.bel.size (fun q e => by cases e; exact h.low.1)), hm, (keep _ (lt_of_heap h.ev) (Ne.symm h.ds.1)).trans h.ev, (keep _ (lt_of_heap h.rv) (Ne.symm h.ds.2.1)).trans h.rv, h.low, h.ds, fun i b hi => ?_, h.len⟩
  obtain ⟨v, h1, h2⟩ := h.ent i b hi
  exact ⟨v, h1, h2.same (fun g hgl hne _ _ => keep g hgl hne)⟩

theorem map_setCell {b i : Nat} {u : Value} (h : MapW W mb cnt left) (hne : mb ≠ b) : MapW (W.setCell ⟨b, i, none⟩ u) mb cnt left :=
  h.kept (row := some b) ⟨rfl, rfl, rfl, by simp, fun q _ hq => Below.heap_setCell _ _ _ _ (fun e => hq (by rw [show q = b from e]))⟩ (fun e => hne (Option.some.inj e))

theorem RefW.setE (h : RefW w W mb eb rb cnt n left ends runs vs) {i : Nat} {v : Int} : RefW w (W.setCell ⟨eb, i, none⟩ (.int .i64 v)) mb eb rb cnt n left (ends.set i v) runs vs := by
  have keep : ∀ q, q ≠ eb → (W.setCell ⟨eb, i, none⟩ (.int .i64 v)).heap[q]? = W.heap[q]? := fun q hq => Below.heap_setCell _ _ _ _ hq
  refine ⟨h.bel.setCell h.low.2.1 _, map_setCell h.map h.ds.1, ?_, (keep _ (Ne.symm h.ds.2.2)).trans h.rv, h.low, h.ds, fun j b hj => ?_, h.len⟩
  · rw [setCell_list h.ev, List.map_set]
  · obtain ⟨u, h1, h2⟩ := h.ent j b hj
    exact ⟨u, h1, h2.same (fun g _ _ hne _ => keep g hne)⟩

theorem RefW.setR (h : RefW w W mb eb rb cnt n left ends runs vs) {v : Value} {b : Int} (hl : runs.length < n) (hv : EntW W mb eb rb v b) : RefW w (W.setCell ⟨rb, runs.length, none⟩ v) mb eb rb cnt n left ends (runs ++ [b]) (vs.set runs.length v) := by
  have keep : ∀ q, q ≠ rb → (W.setCell ⟨rb, runs.length, none⟩ v).heap[q]? = W.heap[q]? := fun q hq => Below.heap_setCell _ _ _ _ hq
  refine ⟨h.bel.setCell h.low.2.2 _, map_setCell h.map h.ds.2.1, (keep _ h.ds.2.2).trans h.ev, ?_, h.low, h.ds, fun j c hj => ?_, by rw [List.length_set]; exact h.len⟩
  · rw [setCell_list h.rv]
  · by_cases hjl : j < runs.length
    · rw [List.getElem?_append_left hjl] at hj
      obtain ⟨u, h1, h2⟩ := h.ent j c hj
      refine ⟨u, ?_, h2.same (fun g _ _ _ hne => keep g hne)⟩
      rw [List.getElem?_set, if_neg (by omega)]
      exact h1
    · have hje : j = runs.length := by
        have := (List.getElem?_eq_some_iff.1 hj).1
        simp at this
        omega
      subst hje
      rw [List.getElem?_append_right (Nat.le_refl _)] at hj
      simp at hj
      subst hj
      refine ⟨v, ?_, hv.same (fun g _ _ _ hne => keep g hne)⟩
      rw [List.getElem?_set, if_pos rfl, if_pos (by rw [h.len]; exact hl)]

end

/-- The beginning: a map and a list that are being filled. -/
structure IniW (w W : World) (mb eb cnt : Nat) (left : List Int) (ec : List Value) : Prop where
  bel : Below w.heap.size w W
  map : MapW W mb cnt left
  ev : W.heap[eb]? = some (.cells ec.toArray 3 (0, 0))
  low : w.heap.size ≤ mb ∧ w.heap.size ≤ eb
  ds : mb ≠ eb

theorem IniW.grow {w W W' : World} {mb eb cnt : Nat} {left : List Int} {ec : List Value} (h : IniW w W mb eb cnt left ec) (hb : Below W.heap.size W W') : IniW w W' mb eb cnt left ec :=
  ⟨below_seq h.bel hb, h.map.kept (grown_of_below hb) (by simp), (hb.block _ (lt_of_heap h.ev)).trans h.ev, h.low, h.ds⟩

theorem IniW.putMap {w W W' : World} {mb eb cnt cnt' : Nat} {left left' : List Int} {ec : List Value} (h : IniW w W mb eb cnt left ec) (hm : MapW W' mb cnt' left') (hg : W.grownBy W' (some mb)) : IniW w W' mb eb cnt' left' ec :=
  ⟨h.bel.trans (grownBy_below hg h.bel.size (fun q e => by cases e; exact h.low.1)), hm, (hg.block _ (lt_of_heap h.ev) (fun e => h.ds (Option.some.inj e).symm)).trans h.ev, h.low, h.ds⟩

theorem IniW.setE {w W : World} {mb eb cnt : Nat} {left : List Int} {ec : List Value} {i : Nat} {u : Value} (h : IniW w W mb eb cnt left ec) : IniW w (W.setCell ⟨eb, i, none⟩ u) mb eb cnt left (ec.set i u) :=
  ⟨h.bel.setCell h.low.2 _, map_setCell h.map h.ds, setCell_list h.ev, h.low, h.ds⟩

/- The list of those that are there, as the document makes it. -/
structure Sorted (l : List Jb) (pol : Int) (left : List Int) (t : Int) (i : Nat) (th : List Nat) : Prop where
  srt : th.Pairwise (lexJ pol l)
  mem : ∀ j, j ∈ th ↔ j < i ∧ (J l j).a ≤ t ∧ 0 < L left j

theorem Sorted.skip {l : List Jb} {pol : Int} {left : List Int} {t : Int} {i : Nat} {th : List Nat} (h : Sorted l pol left t i th) (hn : ¬ ((J l i).a ≤ t ∧ 0 < L left i)) : Sorted l pol left t (i + 1) th :=
  ⟨h.srt, fun j => by
    rw [h.mem]
    constructor
    · rintro ⟨a, b⟩; exact ⟨by omega, b⟩
    · rintro ⟨a, b⟩
      refine ⟨?_, b⟩
      rcases Nat.lt_or_ge j i with g | g
      · exact g
      · have : j = i := by omega
        subst this
        exact absurd b hn⟩

theorem Sorted.ins {l : List Jb} {pol : Int} {left : List Int} {t : Int} {i k : Nat} {th : List Nat} (h : Sorted l pol left t i th) (hi : (J l i).a ≤ t ∧ 0 < L left i) (hk : k ≤ th.length) (h1 : ∀ q x, k ≤ q → th[q]? = some x → lexJ pol l i x) (h2 : ∀ x, 0 < k → th[k - 1]? = some x → ¬ lexJ pol l i x) : Sorted l pol left t (i + 1) (th.take k ++ i :: th.drop k) := by
  have hlt : ∀ x ∈ th, x < i := fun x hx => ((h.mem x).1 hx).1
  have hdr : ∀ x ∈ th.drop k, lexJ pol l i x := fun x hx => by
    obtain ⟨q, hq⟩ := List.getElem?_of_mem hx
    rw [List.getElem?_drop] at hq
    exact h1 (k + q) x (by omega) hq
  have htk : ∀ x ∈ th.take k, lexJ pol l x i := fun x hx => by
    have hk0 : 0 < k := by
      rcases Nat.eq_zero_or_pos k with e | e
      · subst e; simp at hx
      · exact e
    obtain ⟨y, hy⟩ : ∃ y, th[k - 1]? = some y := ⟨th[k - 1], List.getElem?_eq_getElem (by omega)⟩
    have hyi : lexJ pol l y i := lexJ_total (by have := hlt y (List.mem_of_getElem? hy); omega) (h2 y hk0 hy)
    obtain ⟨q, hq⟩ := List.getElem?_of_mem hx
    have hqk : q < k := by
      have := (List.getElem?_eq_some_iff.1 hq).1
      simp at this
      omega
    rw [List.getElem?_take_of_lt hqk] at hq
    rcases Nat.lt_or_ge q (k - 1) with g | g
    · obtain ⟨a1, a2⟩ := List.getElem?_eq_some_iff.1 hq
      obtain ⟨b1, b2⟩ := List.getElem?_eq_some_iff.1 hy
      have := List.pairwise_iff_getElem.1 h.srt q (k - 1) a1 b1 g
      rw [a2, b2] at this
      exact lexJ_trans this hyi
    · have : q = k - 1 := by omega
      subst this
      rw [hq] at hy
      cases hy
      exact hyi
  refine ⟨?_, fun j => ?_⟩
  · rw [List.pairwise_append]
    refine ⟨h.srt.take, List.pairwise_cons.2 ⟨hdr, h.srt.drop⟩, fun x hx y hy => ?_⟩
    rcases List.mem_cons.1 hy with rfl | hy
    · exact htk x hx
    · exact lexJ_trans (htk x hx) (hdr y hy)
  · have hm : j ∈ th.take k ++ i :: th.drop k ↔ j = i ∨ j ∈ th := by
      rw [List.mem_append, List.mem_cons]
      have e : j ∈ th ↔ j ∈ th.take k ∨ j ∈ th.drop k := by rw [← List.mem_append, List.take_append_drop]
      rw [e]
      constructor
      · rintro (a | a | a)
        · exact .inr (.inl a)
        · exact .inl a
        · exact .inr (.inr a)
      · rintro (a | a | a)
        · exact .inr (.inl a)
        · exact .inl a
        · exact .inr (.inr a)
    rw [hm, h.mem]
    constructor
    · rintro (rfl | ⟨a, b⟩)
      · exact ⟨by omega, hi⟩
      · exact ⟨by omega, b⟩
    · rintro ⟨a, b⟩
      rcases Nat.lt_or_ge j i with g | g
      · exact .inr ⟨g, b⟩
      · exact .inl (by omega)

/-- The place of the foremost one. -/
def fore : List Nat → Int
  | [] => -1
  | p :: _ => (p : Int)

/-- The first one of them is the one that goes first. -/
theorem Sorted.best {l : List Jb} {pol : Int} {left : List Int} {t : Int} {th : List Nat} (h : Sorted l pol left t l.length th) : IsBest l pol left t (fore th) := by
  cases th with
  | nil =>
    refine .inl ⟨rfl, fun i hi ⟨a, b⟩ => ?_⟩
    have := (h.mem i).2 ⟨hi, a, b⟩
    simp at this
  | cons p r =>
    obtain ⟨a, b, c⟩ := (h.mem p).1 List.mem_cons_self
    refine .inr ⟨p, rfl, a, b, c, fun j hj g1 g2 hne => ?_⟩
    have hm := (h.mem j).2 ⟨hj, g1, g2⟩
    rcases List.mem_cons.1 hm with rfl | hm
    · exact absurd rfl hne
    · exact (List.pairwise_cons.1 h.srt).1 j hm
end Go.Proofs.YtdhnjemgnlklkajDoor
