import Derived.Test.YtcmoehednkaehadDoorGWE
import Derived.Test.YtcmoehednkaehadDoorGLend
import Derived.Laws.MakeOwn
namespace Go.Proofs.YtcmoehednkaehadDoor
open Go.ChangeShapes Go.WideShapes Go.ChangeAt Go.RowKit

/-- The eight variables at first, and the four inputs. -/
def zeros8 : List Int := [0, 0, 0, 0, 0, 0, 0, 0]
def fives4 : List Int := [5, 0, 0, 0]
def doneV : List Int := [15, 0, 0, 0, 0, 0, 0, 0]
def doneP : List (Int × Int) := [(1, 30)]

/-- The law's own image, in a world. -/
def BodyAt (w : World) (v : Value) : Prop := ∃ ad c, v = .slice ad imageL.length c ∧ InSl w imageL v ∧ (ad = none → imageL.length = 0 ∧ c = 0)

theorem BodyAt.below {w w' : World} {v : Value} (h : BodyAt w v) (hb : Below w.heap.size w w') : BodyAt w' v := by
  obtain ⟨ad, c, h1, h2, h3⟩ := h
  exact ⟨ad, c, h1, h2.below hb, h3⟩

theorem res_image : resF imageL zeros8 fives4 = ((0, 0), doneV, doneP, 28) := by
  rw [res_run ((doc_check imageL).trans checkI_image) rfl rfl]
  have e : runF imageL fives4 20000 (ms0 zeros8) 0 = _ := run_image
  rw [e]
  rfl

def endV (vb vc : Nat) (pad : Option Addr) (pcap : Nat) : Value := .agg #[.slice (some ⟨vb, 0, none⟩) 8 vc, .slice pad 1 pcap, .int .i64 28]
def okV : Value := .agg #[.int .i64 0, .int .i64 0]

/-- What Run has left. -/
def RanAt (w : World) (vb vc : Nat) (pad : Option Addr) (pcap : Nat) : Prop := VB w vb vc doneV ∧ ∃ B, w.ownsRow B 76 2 (.slice pad 1 pcap) 1 (putVs doneP)

theorem RanAt.move {w w' : World} {vb vc pcap : Nat} {pad : Option Addr} (h : RanAt w vb vc pad pcap) (hb : ∀ (k : Nat) (cs : Array Value) (t : TypeId), (t = 3 ∨ t = 76) → w.heap[k]? = some (Obj.cells cs t (0, 0)) → w'.heap[k]? = some (Obj.cells cs t (0, 0))) : RanAt w' vb vc pad pcap := by
  obtain ⟨⟨l8, cs, h1, h2, h3⟩, B, hl, h4⟩ := h
  refine ⟨⟨l8, cs, hb _ _ _ (.inl rfl) h1, h2, h3⟩, B, hl, ?_⟩
  rcases h4 with h4 | ⟨g, cap, cur, e, hB, hg, hr⟩
  · exact .inl h4
  · exact .inr ⟨g, cap, cur, e, hB, hb _ _ _ (.inr rfl) hg, hr⟩

theorem RanAt.below {w w' : World} {vb vc pcap : Nat} {pad : Option Addr} (h : RanAt w vb vc pad pcap) (hb : Below w.heap.size w w') : RanAt w' vb vc pad pcap :=
  h.move fun k _ _ _ hk => (hb.block k (Array.getElem?_eq_some_iff.1 hk).1).trans hk

/-- A block of three cells, and one of two. -/
def Blk3 (w w' : World) (x : Value) (c0 c1 c2 : Value) : Prop := ∃ g, x = .pointer (some ⟨g, 0, none⟩) ∧ w.heap.size ≤ g ∧ w'.heap[g]? = some (.cells #[c0, c1, c2] 43 (0, 0))
def Blk2 (w w' : World) (x : Value) (c0 c1 : Value) : Prop := ∃ g, x = .pointer (some ⟨g, 0, none⟩) ∧ w.heap.size ≤ g ∧ w'.heap[g]? = some (.cells #[c0, c1] 37 (0, 0))

theorem Blk3.below {w0 w w' : World} {x c0 c1 c2 : Value} (h : Blk3 w0 w x c0 c1 c2) (hb : Below w.heap.size w w') : Blk3 w0 w' x c0 c1 c2 := by
  obtain ⟨g, h1, h2, h3⟩ := h
  exact ⟨g, h1, h2, (hb.block g (Array.getElem?_eq_some_iff.1 h3).1).trans h3⟩
theorem Blk2.below {w0 w w' : World} {x c0 c1 : Value} (h : Blk2 w0 w x c0 c1) (hb : Below w.heap.size w w') : Blk2 w0 w' x c0 c1 := by
  obtain ⟨g, h1, h2, h3⟩ := h
  exact ⟨g, h1, h2, (hb.block g (Array.getElem?_eq_some_iff.1 h3).1).trans h3⟩

/-- What is known, whatever was done so far. -/
structure DF (w : World) (l0 l1 l2 l3 l4 l5 l6 l7 l8 l9 l10 : Bool) (x1 x2 x3 x4 x5 x6 x7 x8 x9 : Value) (w' : World) : Prop where
  bel : Below w.heap.size w w'
  mid : (l3 = false ∧ l4 = false ∧ l5 = false ∧ l6 = false ∧ l9 = false ∧ l10 = false ∧ (l0 = true → BodyAt w' x4) ∧ (l1 = true → ∃ k, x5 = .slice (some ⟨k, 0, none⟩) 8 8 ∧ IntSl w' zeros8 x5) ∧ (l2 = true → ∃ k, x6 = .slice (some ⟨k, 0, none⟩) 4 4 ∧ IntSl w' fives4 x6)) ∨
    (l3 = true ∧ l0 = true ∧ l1 = true ∧ l2 = true ∧ ∃ vb vc pad pcap, RanAt w' vb vc pad pcap ∧ x7 = .tuple #[endV vb vc pad pcap, okV] ∧ (l4 = true → x3 = .tuple #[endV vb vc pad pcap, okV]) ∧ (l4 = false → l5 = false ∧ l6 = false) ∧ (l5 = true → x8 = endV vb vc pad pcap) ∧ (l5 = false → l9 = false) ∧ (l6 = true → x9 = okV) ∧ (l6 = false → l10 = false))
  b3 : (l7 = false ∧ l9 = false) ∨ (l7 = true ∧ ∃ c0 c1 c2, Blk3 w w' x1 c0 c1 c2 ∧ (l9 = true → x8 = .agg #[c0, c1, c2]))
  b2 : (l8 = false ∧ l10 = false) ∨ (l8 = true ∧ ∃ c0 c1, Blk2 w w' x2 c0 c1 ∧ (l10 = true → x9 = .agg #[c0, c1]))

theorem DF.grow {w : World} {l0 l1 l2 l3 l4 l5 l6 l7 l8 l9 l10 : Bool} {x1 x2 x3 x4 x5 x6 x7 x8 x9 : Value} {w' w'' : World} (h : DF w l0 l1 l2 l3 l4 l5 l6 l7 l8 l9 l10 x1 x2 x3 x4 x5 x6 x7 x8 x9 w') (hb : Below w'.heap.size w' w'') : DF w l0 l1 l2 l3 l4 l5 l6 l7 l8 l9 l10 x1 x2 x3 x4 x5 x6 x7 x8 x9 w'' := by
  obtain ⟨h1, h2, h3, h4⟩ := h
  refine ⟨below_seq h1 hb, ?_, ?_, ?_⟩
  · rcases h2 with ⟨a, b, c, d, e, f, g, i, j⟩ | ⟨a, b, c, d, vb, vc, pad, pcap, h, r⟩
    · refine .inl ⟨a, b, c, d, e, f, fun q => (g q).below hb, fun q => ?_, fun q => ?_⟩
      · obtain ⟨k, e, hk⟩ := i q; exact ⟨k, e, hk.below hb⟩
      · obtain ⟨k, e, hk⟩ := j q; exact ⟨k, e, hk.below hb⟩
    · exact .inr ⟨a, b, c, d, vb, vc, pad, pcap, h.below hb, r⟩
  · rcases h3 with h3 | ⟨a, c0, c1, c2, h, r⟩
    · exact .inl h3
    · exact .inr ⟨a, c0, c1, c2, h.below hb, r⟩
  · rcases h4 with h4 | ⟨a, c0, c1, h, r⟩
    · exact .inl h4
    · exact .inr ⟨a, c0, c1, h.below hb, r⟩

/-- At the end. -/
theorem DF.last {w : World} {x1 x2 x3 x4 x5 x6 x7 x8 x9 : Value} {w' : World} (h : DF w true true true true true true true true true true true x1 x2 x3 x4 x5 x6 x7 x8 x9 w') :
    ∃ g g' vb vc pad pcap, x1 = .pointer (some ⟨g, 0, none⟩) ∧ x2 = .pointer (some ⟨g', 0, none⟩) ∧ Hid (RanAt w' vb vc pad pcap ∧ Below w.heap.size w w') ∧ w'.heap[g]? = some (.cells #[.slice (some ⟨vb, 0, none⟩) 8 vc, .slice pad 1 pcap, .int .i64 28] 43 (0, 0)) ∧ w'.heap[g']? = some (.cells #[.int .i64 0, .int .i64 0] 37 (0, 0)) := by
  obtain ⟨h1, h2, h3, h4⟩ := h
  rcases h2 with ⟨a, -⟩ | ⟨-, -, -, -, vb, vc, pad, pcap, h, -, -, -, r5, -, r6, -⟩
  · cases a
  rcases h3 with ⟨a, -⟩ | ⟨-, c0, c1, c2, ⟨g, e, -, hg⟩, r⟩
  · cases a
  rcases h4 with ⟨a, -⟩ | ⟨-, d0, d1, ⟨g', e', -, hg'⟩, r'⟩
  · cases a
  have e8 := (r rfl).symm.trans (r5 rfl)
  have e9 := (r' rfl).symm.trans (r6 rfl)
  unfold endV at e8
  unfold okV at e9
  simp at e8 e9
  obtain ⟨rfl, rfl, rfl⟩ := e8
  obtain ⟨rfl, rfl⟩ := e9
  exact ⟨g, g', vb, vc, pad, pcap, e, e', ⟨h, h1⟩, hg, hg'⟩

theorem DF.s0 {w : World} {l1 l2 l3 l4 l5 l6 l7 l8 l9 l10 : Bool} {x1 x2 x3 x4 x5 x6 x7 x8 x9 : Value} {w' : World} (h : DF w false l1 l2 l3 l4 l5 l6 l7 l8 l9 l10 x1 x2 x3 x4 x5 x6 x7 x8 x9 w') {v : Value} (hv : BodyAt w' v) :
    DF w true l1 l2 l3 l4 l5 l6 l7 l8 l9 l10 x1 x2 x3 v x5 x6 x7 x8 x9 w' := by
  obtain ⟨h1, h2, h3, h4⟩ := h
  refine ⟨h1, ?_, h3, h4⟩
  rcases h2 with ⟨a, b, c, d, e, f, -, i, j⟩ | ⟨-, b, -⟩
  · exact .inl ⟨a, b, c, d, e, f, fun _ => hv, i, j⟩
  · cases b
theorem DF.s1 {w : World} {l0 l2 l3 l4 l5 l6 l7 l8 l9 l10 : Bool} {x1 x2 x3 x4 x5 x6 x7 x8 x9 : Value} {w' : World} (h : DF w l0 false l2 l3 l4 l5 l6 l7 l8 l9 l10 x1 x2 x3 x4 x5 x6 x7 x8 x9 w') {v : Value} (hv : ∃ k, v = .slice (some ⟨k, 0, none⟩) 8 8 ∧ IntSl w' zeros8 v) :
    DF w l0 true l2 l3 l4 l5 l6 l7 l8 l9 l10 x1 x2 x3 x4 v x6 x7 x8 x9 w' := by
  obtain ⟨h1, h2, h3, h4⟩ := h
  refine ⟨h1, ?_, h3, h4⟩
  rcases h2 with ⟨a, b, c, d, e, f, g, -, j⟩ | ⟨-, -, b, -⟩
  · exact .inl ⟨a, b, c, d, e, f, g, fun _ => hv, j⟩
  · cases b
theorem DF.s2 {w : World} {l0 l1 l3 l4 l5 l6 l7 l8 l9 l10 : Bool} {x1 x2 x3 x4 x5 x6 x7 x8 x9 : Value} {w' : World} (h : DF w l0 l1 false l3 l4 l5 l6 l7 l8 l9 l10 x1 x2 x3 x4 x5 x6 x7 x8 x9 w') {v : Value} (hv : ∃ k, v = .slice (some ⟨k, 0, none⟩) 4 4 ∧ IntSl w' fives4 v) :
    DF w l0 l1 true l3 l4 l5 l6 l7 l8 l9 l10 x1 x2 x3 x4 x5 v x7 x8 x9 w' := by
  obtain ⟨h1, h2, h3, h4⟩ := h
  refine ⟨h1, ?_, h3, h4⟩
  rcases h2 with ⟨a, b, c, d, e, f, g, i, -⟩ | ⟨-, -, -, b, -⟩
  · exact .inl ⟨a, b, c, d, e, f, g, i, fun _ => hv⟩
  · cases b
theorem DF.s3 {w : World} {l4 l5 l6 l7 l8 l9 l10 : Bool} {x1 x2 x3 x4 x5 x6 x7 x8 x9 : Value} {w' : World} (h : DF w true true true false l4 l5 l6 l7 l8 l9 l10 x1 x2 x3 x4 x5 x6 x7 x8 x9 w') {vb vc pcap : Nat} {pad : Option Addr} (hv : RanAt w' vb vc pad pcap) :
    DF w true true true true l4 l5 l6 l7 l8 l9 l10 x1 x2 x3 x4 x5 x6 (.tuple #[endV vb vc pad pcap, okV]) x8 x9 w' := by
  obtain ⟨h1, h2, h3, h4⟩ := h
  refine ⟨h1, ?_, h3, h4⟩
  rcases h2 with ⟨a, b, c, d, e, f, g, i, -⟩ | ⟨b, -⟩
  · subst b c d e f
    exact .inr ⟨rfl, rfl, rfl, rfl, vb, vc, pad, pcap, hv, rfl, (fun h => by cases h), (fun _ => ⟨rfl, rfl⟩), (fun h => by cases h), (fun _ => rfl), (fun h => by cases h), (fun _ => rfl)⟩
  · cases b
theorem DF.s4 {w : World} {l0 l1 l2 l5 l6 l7 l8 l9 l10 : Bool} {x1 x2 x3 x4 x5 x6 x7 x8 x9 : Value} {w' : World} (h : DF w l0 l1 l2 true false l5 l6 l7 l8 l9 l10 x1 x2 x3 x4 x5 x6 x7 x8 x9 w')  :
    DF w l0 l1 l2 true true l5 l6 l7 l8 l9 l10 x1 x2 x7 x4 x5 x6 x7 x8 x9 w' := by
  obtain ⟨h1, h2, h3, h4⟩ := h
  refine ⟨h1, ?_, h3, h4⟩
  rcases h2 with ⟨a, -⟩ | ⟨a, b, c, d, vb, vc, pad, pcap, h, e7, -, e4, r⟩
  · cases a
  · obtain ⟨rfl, rfl⟩ := e4 rfl
    exact .inr ⟨a, b, c, d, vb, vc, pad, pcap, h, e7, (fun _ => e7), (fun h => by cases h), r⟩
theorem DF.s5 {w : World} {l0 l1 l2 l3 l6 l7 l8 l9 l10 : Bool} {x1 x2 x3 x4 x5 x6 x7 x8 x9 : Value} {w' : World} (h : DF w l0 l1 l2 l3 true false l6 l7 l8 l9 l10 x1 x2 x3 x4 x5 x6 x7 x8 x9 w') {v : Value} (hv : ∀ y z, x3 = .tuple #[y, z] → v = y) :
    DF w l0 l1 l2 l3 true true l6 l7 l8 l9 l10 x1 x2 x3 x4 x5 x6 x7 v x9 w' := by
  obtain ⟨h1, h2, h3, h4⟩ := h
  rcases h2 with ⟨-, a, -⟩ | ⟨a, b, c, d, vb, vc, pad, pcap, h, e7, e4, -, -, e5, r⟩
  · cases a
  · have e9 := e5 rfl
    subst e9
    refine ⟨h1, .inr ⟨a, b, c, d, vb, vc, pad, pcap, h, e7, e4, (fun h => by cases h), (fun _ => hv _ _ (e4 rfl)), (fun h => by cases h), r⟩, ?_, h4⟩
    rcases h3 with h3 | ⟨q, c0, c1, c2, hb, -⟩
    · exact .inl h3
    · exact .inr ⟨q, c0, c1, c2, hb, fun h => by cases h⟩
theorem DF.s6 {w : World} {l0 l1 l2 l3 l5 l7 l8 l9 l10 : Bool} {x1 x2 x3 x4 x5 x6 x7 x8 x9 : Value} {w' : World} (h : DF w l0 l1 l2 l3 true l5 false l7 l8 l9 l10 x1 x2 x3 x4 x5 x6 x7 x8 x9 w') {v : Value} (hv : ∀ y z, x3 = .tuple #[y, z] → v = z) :
    DF w l0 l1 l2 l3 true l5 true l7 l8 l9 l10 x1 x2 x3 x4 x5 x6 x7 x8 v w' := by
  obtain ⟨h1, h2, h3, h4⟩ := h
  rcases h2 with ⟨-, a, -⟩ | ⟨a, b, c, d, vb, vc, pad, pcap, h, e7, e4, -, e5, e5', -, e6⟩
  · cases a
  · have e10 := e6 rfl
    subst e10
    refine ⟨h1, .inr ⟨a, b, c, d, vb, vc, pad, pcap, h, e7, e4, (fun h => by cases h), e5, e5', (fun _ => hv _ _ (e4 rfl)), (fun h => by cases h)⟩, h3, ?_⟩
    rcases h4 with h4 | ⟨q, c0, c1, hb, -⟩
    · exact .inl h4
    · exact .inr ⟨q, c0, c1, hb, fun h => by cases h⟩
theorem DF.s7 {w : World} {l0 l1 l2 l3 l4 l5 l6 l8 l9 l10 : Bool} {x1 x2 x3 x4 x5 x6 x7 x8 x9 : Value} {w' : World} (h : DF w l0 l1 l2 l3 l4 l5 l6 false l8 l9 l10 x1 x2 x3 x4 x5 x6 x7 x8 x9 w') {v c0 c1 c2 : Value} (hv : Blk3 w w' v c0 c1 c2) :
    DF w l0 l1 l2 l3 l4 l5 l6 true l8 l9 l10 v x2 x3 x4 x5 x6 x7 x8 x9 w' := by
  obtain ⟨h1, h2, h3, h4⟩ := h
  refine ⟨h1, h2, ?_, h4⟩
  rcases h3 with ⟨-, e⟩ | ⟨q, -⟩
  · exact .inr ⟨rfl, c0, c1, c2, hv, fun h => by rw [e] at h; cases h⟩
  · cases q
theorem DF.s8 {w : World} {l0 l1 l2 l3 l4 l5 l6 l7 l9 l10 : Bool} {x1 x2 x3 x4 x5 x6 x7 x8 x9 : Value} {w' : World} (h : DF w l0 l1 l2 l3 l4 l5 l6 l7 false l9 l10 x1 x2 x3 x4 x5 x6 x7 x8 x9 w') {v c0 c1 : Value} (hv : Blk2 w w' v c0 c1) :
    DF w l0 l1 l2 l3 l4 l5 l6 l7 true l9 l10 x1 v x3 x4 x5 x6 x7 x8 x9 w' := by
  obtain ⟨h1, h2, h3, h4⟩ := h
  refine ⟨h1, h2, h3, ?_⟩
  rcases h4 with ⟨-, e⟩ | ⟨q, -⟩
  · exact .inr ⟨rfl, c0, c1, hv, fun h => by rw [e] at h; cases h⟩
  · cases q
theorem other_block {w : World} {g k : Nat} {cs cs' : Array Value} {t t' : TypeId} {a : Addr} {u : Value} (hg : w.heap[g]? = some (Obj.cells cs t (0, 0))) (hk : w.heap[k]? = some (Obj.cells cs' t' (0, 0))) (ht : t ≠ t') (ha : a.block = g) : (w.setCell a u).heap[k]? = some (Obj.cells cs' t' (0, 0)) := by
  have hne : k ≠ g := by
    intro e
    subst e
    rw [hg] at hk
    simp at hk
    exact ht hk.2
  rw [Below.heap_setCell _ _ _ _ (by rw [ha]; exact hne)]
  exact hk

theorem DF.shape {w : World} {l0 l1 l2 l3 l4 l5 l6 l7 l8 l9 l10 : Bool} {x1 x2 x3 x4 x5 x6 x7 x8 x9 : Value} {w' : World} (h : DF w l0 l1 l2 l3 l4 l5 l6 l7 l8 l9 l10 x1 x2 x3 x4 x5 x6 x7 x8 x9 w') (h3 : l3 = true) : ∃ vb vc pad pcap, (l4 = true → x3 = .tuple #[endV vb vc pad pcap, okV]) ∧ (l5 = true → x8 = endV vb vc pad pcap) ∧ (l6 = true → x9 = okV) := by
  rcases h.mid with ⟨a, -⟩ | ⟨-, -, -, -, vb, vc, pad, pcap, -, -, e4, -, e5, -, e6, -⟩
  · rw [h3] at a; cases a
  · exact ⟨vb, vc, pad, pcap, e4, e5, e6⟩

theorem DF.s9 {w : World} {l0 l1 l2 l4 l6 l8 l9 l10 : Bool} {x1 x2 x3 x4 x5 x6 x7 x8 x9 : Value} {w' : World} {g : Nat} {c0 c1 c2 d0 d1 d2 : Value} (h : DF w l0 l1 l2 true l4 true l6 true l8 l9 l10 x1 x2 x3 x4 x5 x6 x7 x8 x9 w') (hx : x1 = .pointer (some ⟨g, 0, none⟩)) (hg0 : w.heap.size ≤ g) (hg : w'.heap[g]? = some (.cells #[c0, c1, c2] 43 (0, 0))) (h8 : x8 = .agg #[d0, d1, d2]) :
    DF w l0 l1 l2 true l4 true l6 true l8 true l10 x1 x2 x3 x4 x5 x6 x7 x8 x9 (((w'.setCell ⟨g, 0, none⟩ d0).setCell ⟨g, 1, none⟩ d1).setCell ⟨g, 2, none⟩ d2) := by
  obtain ⟨h1, h2, h3, h4⟩ := h
  have q1 := setCell_at (i := 0) (u := d0) hg
  have q2 := setCell_at (i := 1) (u := d1) q1
  have q3 := setCell_at (i := 2) (u := d2) q2
  have mv : ∀ (k : Nat) (cs : Array Value) (t : TypeId), t ≠ 43 → w'.heap[k]? = some (Obj.cells cs t (0, 0)) → (((w'.setCell ⟨g, 0, none⟩ d0).setCell ⟨g, 1, none⟩ d1).setCell ⟨g, 2, none⟩ d2).heap[k]? = some (Obj.cells cs t (0, 0)) := fun k cs t ht hk =>
    other_block q2 (other_block q1 (other_block hg hk (Ne.symm ht) rfl) (Ne.symm ht) rfl) (Ne.symm ht) rfl
  refine ⟨((h1.setCell hg0 _).setCell hg0 _).setCell hg0 _, ?_, .inr ⟨rfl, d0, d1, d2, ⟨g, hx, hg0, by simpa using q3⟩, fun _ => h8⟩, ?_⟩
  · rcases h2 with ⟨a, -⟩ | ⟨a, b, c, d, vb, vc, pad, pcap, h, e7, e4, e4', e5, -, r⟩
    · cases a
    · exact .inr ⟨a, b, c, d, vb, vc, pad, pcap, h.move (fun k cs t ht hk => mv k cs t (by rcases ht with rfl | rfl <;> decide) hk), e7, e4, e4', e5, (fun h => by cases h), r⟩
  · rcases h4 with h4 | ⟨q, b0, b1, ⟨k, hk1, hk2, hk3⟩, r⟩
    · exact .inl h4
    · exact .inr ⟨q, b0, b1, ⟨k, hk1, hk2, mv k _ 37 (by decide) hk3⟩, r⟩

theorem DF.s10 {w : World} {l0 l1 l2 l4 l5 l7 l9 l10 : Bool} {x1 x2 x3 x4 x5 x6 x7 x8 x9 : Value} {w' : World} {g : Nat} {c0 c1 d0 d1 : Value} (h : DF w l0 l1 l2 true l4 l5 true l7 true l9 l10 x1 x2 x3 x4 x5 x6 x7 x8 x9 w') (hx : x2 = .pointer (some ⟨g, 0, none⟩)) (hg0 : w.heap.size ≤ g) (hg : w'.heap[g]? = some (.cells #[c0, c1] 37 (0, 0))) (h9 : x9 = .agg #[d0, d1]) :
    DF w l0 l1 l2 true l4 l5 true l7 true l9 true x1 x2 x3 x4 x5 x6 x7 x8 x9 ((w'.setCell ⟨g, 0, none⟩ d0).setCell ⟨g, 1, none⟩ d1) := by
  obtain ⟨h1, h2, h3, h4⟩ := h
  have q1 := setCell_at (i := 0) (u := d0) hg
  have q2 := setCell_at (i := 1) (u := d1) q1
  have mv : ∀ (k : Nat) (cs : Array Value) (t : TypeId), t ≠ 37 → w'.heap[k]? = some (Obj.cells cs t (0, 0)) → ((w'.setCell ⟨g, 0, none⟩ d0).setCell ⟨g, 1, none⟩ d1).heap[k]? = some (Obj.cells cs t (0, 0)) := fun k cs t ht hk =>
    other_block q1 (other_block hg hk (Ne.symm ht) rfl) (Ne.symm ht) rfl
  refine ⟨(h1.setCell hg0 _).setCell hg0 _, ?_, ?_, .inr ⟨rfl, d0, d1, ⟨g, hx, hg0, by simpa using q2⟩, fun _ => h9⟩⟩
  · rcases h2 with ⟨a, -⟩ | ⟨a, b, c, d, vb, vc, pad, pcap, h, e7, e4, e4', e5, e5', e6, -⟩
    · cases a
    · exact .inr ⟨a, b, c, d, vb, vc, pad, pcap, h.move (fun k cs t ht hk => mv k cs t (by rcases ht with rfl | rfl <;> decide) hk), e7, e4, e4', e5, e5', e6, (fun h => by cases h)⟩
  · rcases h3 with h3 | ⟨q, b0, b1, b2, ⟨k, hk1, hk2, hk3⟩, r⟩
    · exact .inl h3
    · exact .inr ⟨q, b0, b1, b2, ⟨k, hk1, hk2, mv k _ 43 (by decide) hk3⟩, r⟩

theorem zeros_made (w : World) : IntSl (w.alloc (.cells #[.int .i64 0, .int .i64 0, .int .i64 0, .int .i64 0, .int .i64 0, .int .i64 0, .int .i64 0, .int .i64 0] 3)) zeros8 (.slice (some ⟨w.heap.size, 0, none⟩) 8 8) := by
  refine ⟨_, _, rfl, .inr ⟨w.heap.size, 0, rfl, fun j hj => ?_⟩⟩
  have := (cells_of (l := [.int .i64 0, .int .i64 0, .int .i64 0, .int .i64 0, .int .i64 0, .int .i64 0, .int .i64 0, .int .i64 0]) (heap_alloc_new w (.cells #[.int .i64 0, .int .i64 0, .int .i64 0, .int .i64 0, .int .i64 0, .int .i64 0, .int .i64 0, .int .i64 0] 3))).1 j (.int .i64 (zeros8.getD j 0))
  rw [Nat.zero_add]
  apply this
  have hj' : j < 8 := hj
  have : j = 0 ∨ j = 1 ∨ j = 2 ∨ j = 3 ∨ j = 4 ∨ j = 5 ∨ j = 6 ∨ j = 7 := by omega
  rcases this with rfl | rfl | rfl | rfl | rfl | rfl | rfl | rfl <;> rfl

theorem fives_made (w : World) : IntSl (w.alloc (.cells #[.int .i64 5, .int .i64 0, .int .i64 0, .int .i64 0] 3)) fives4 (.slice (some ⟨w.heap.size, 0, none⟩) 4 4) := by
  refine ⟨_, _, rfl, .inr ⟨w.heap.size, 0, rfl, fun j hj => ?_⟩⟩
  have := (cells_of (l := [.int .i64 5, .int .i64 0, .int .i64 0, .int .i64 0]) (heap_alloc_new w (.cells #[.int .i64 5, .int .i64 0, .int .i64 0, .int .i64 0] 3))).1 j (.int .i64 (fives4.getD j 0))
  rw [Nat.zero_add]
  apply this
  have hj' : j < 4 := hj
  have : j = 0 ∨ j = 1 ∨ j = 2 ∨ j = 3 := by omega
  rcases this with rfl | rfl | rfl | rfl <;> rfl

theorem puts_made (w : World) : PutSl (w.alloc (.cells #[.int .i64 1, .int .i64 30] 76)) doneP (.slice (some ⟨w.heap.size, 0, none⟩) 1 1) := by
  refine ⟨_, _, rfl, .inr ⟨w.heap.size, 0, rfl, fun j hj => ?_⟩⟩
  have h := (cells_of (l := [.int .i64 1, .int .i64 30]) (heap_alloc_new w (.cells #[.int .i64 1, .int .i64 30] 76))).1
  have hj' : j < 1 := hj
  have : j = 0 := by omega
  subst this
  exact ⟨h 0 _ rfl, h 1 _ rfl⟩

set_option maxRecDepth 20000 in
set_option maxHeartbeats 4000000 in
/-- image: the law's own. -/
theorem imageW_any (w : World) : Calls Tryd.prog 31 #[] w fun r w' => (∃ ad c, r = .returned (.slice ad imageL.length c) ∧ InSl w' imageL (.slice ad imageL.length c) ∧ (ad = none → imageL.length = 0 ∧ c = 0)) ∧ Below w.heap.size w w' := by
  go_enter Tryd.func31, Tryd.ntmps31
  go_wp2_with fail
  go_ret
  refine ⟨⟨_, _, rfl, ?_, fun e => by cases e⟩, below_new _ _⟩
  refine ⟨_, _, rfl, .inr ⟨w.heap.size, 0, rfl, fun j hj => ?_⟩⟩
  have h := (cells_of (l := insVs imageL) (heap_alloc_new w (.cells (insVs imageL).toArray 27))).1
  obtain ⟨a0, a1, a2⟩ := insVs_at imageL j hj
  rw [Nat.zero_add]
  exact ⟨h _ _ a0, h _ _ a1, h _ _ a2⟩


/-- Run, of the law's own image. -/
theorem run_own (w : World) (v : Value) (k m : Nat) (hr : KindsIn w) (hb : BodyAt w v) (hv : IntSl w zeros8 (.slice (some ⟨k, 0, none⟩) 8 8)) (hi : IntSl w fives4 (.slice (some ⟨m, 0, none⟩) 4 4)) :
    Calls Tryd.prog 18 #[v, .slice (some ⟨k, 0, none⟩) 8 8, .slice (some ⟨m, 0, none⟩) 4 4] w fun r w' => ∃ vb vc pad pcap, r = .returned (.tuple #[endV vb vc pad pcap, okV]) ∧ RanAt w' vb vc pad pcap ∧ Below w.heap.size w w' := by
  obtain ⟨ad, c, rfl, h1, h2⟩ := hb
  refine (Run_is w imageL ad c _ _ 8 4 zeros8 fives4 hr h1 h2 hv hi).mono fun r w' h => ?_
  obtain ⟨hbw, u, q, he, hu, ho, -⟩ := h
  rw [res_image] at he hu ho
  obtain ⟨vb, vc, rfl, hvb, -⟩ := VB.of_owns hu rfl
  obtain ⟨pad, pcap, rfl⟩ := owns_value ho
  exact ⟨vb, vc, pad, pcap, he, ⟨hvb, _, ho⟩, hbw⟩
end Go.Proofs.YtcmoehednkaehadDoor
