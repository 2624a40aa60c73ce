import Derived.Test.YtibcbdihphbfeacDoorGSLb
import Derived.Test.YtibcbdihphbfeacDoorGSLc
import Derived.Test.YtibcbdihphbfeacDoorGSLd
import Derived.Test.YtibcbdihphbfeacDoorGSLe
import Derived.Test.YtibcbdihphbfeacDoorGSLf
import Derived.Test.YtibcbdihphbfeacDoorGSLg
import Derived.Test.YtibcbdihphbfeacDoorGSLh
import Derived.Test.YtibcbdihphbfeacDoorGSSv
import Derived.Test.YtibcbdihphbfeacDoorGSLj4
import Derived.Test.YtibcbdihphbfeacDoorGSLj5
import Derived.Test.YtibcbdihphbfeacDoorGYes
import Derived.Test.YtibcbdihphbfeacDoorGSLj7
import Derived.Test.YtibcbdihphbfeacDoorGSLj8
import Derived.Test.YtibcbdihphbfeacDoorGExec
import Derived.Test.YtibcbdihphbfeacDoorGRes
import Derived.Test.YtibcbdihphbfeacDoorGMNewOk
import Derived.Laws.MakeOwn
import Derived.Deep.CutRange
import Derived.Test.YtibcbdihphbfeacDoorGMHelp
namespace Go.Proofs.YtibcbdihphbfeacDoor
open Go.ChangeShapes Go.WideShapes Go.ChangeAt Go.RowKit
theorem Steps_any (w : World) (l : List In) (M : Int → Option Int) (iad : Option Addr) (ic : Nat) (vad nad : Option Addr) (vc nc : Nat) (vs ins : List Int) (most : Nat) (g : GoodI l M) (h : InSl w l (.slice iad l.length ic)) (hv : vs.length = 8) (hi : ins.length = 4) (hvs : IntSl w vs (.slice vad vs.length vc)) (hins : IntSl w ins (.slice nad ins.length nc)) (hm : most ≤ 20001) : Calls Tryd.prog 41 #[.slice iad l.length ic, .slice vad 8 vc, .slice nad 4 nc, .int .i64 (most : Int)] w (StepsPost w l ins vs most) :=
 StP.2.2.2.2.2.2.2.2.2.2.2.2.2.2.2.2.2.2 ⟨st_op1⟩ ⟨st_op2⟩ ⟨st_op3⟩ ⟨st_op4⟩ ⟨st_op5⟩ ⟨st_op6⟩ ⟨st_op7⟩ ⟨st_op8⟩ ⟨st_op9⟩ ⟨st_op10⟩ ⟨st_op11⟩ ⟨st_op12⟩ ⟨st_op13⟩ ⟨st_op14⟩ ⟨st_op15⟩ ⟨st_op16⟩ ⟨st_op17⟩ ⟨st_op18⟩ w l M iad ic vad nad vc nc vs ins most g h hv hi hvs hins hm
theorem StepSl.at {w : World} {tr : List (Nat × Int)} {v : Value} (h : StepSl w tr v) (hl : tr.length = 20001) : ∃ b o c, v = .slice (some ⟨b, o, none⟩) 20001 c ∧ w.cell? ⟨b, o + 40000, none⟩ = some (.int .i64 ((tr.getD 20000 (0, 0)).1 : Int)) := by
 obtain ⟨ad, c, e, h0 | ⟨b, o, rfl, hc⟩⟩ := h
 ·rw [h0] at hl; simp at hl
 ·exact ⟨b, o, c, by rw [e, hl], (hc 20000 (by omega)).1⟩
theorem ready_false {md : Region.Mode} {ops : Array Oper} {l : Array Bool} {i : Nat} (h : i ∈ Region.ready md ops l) : ∃ hi : i < l.size, l[i] = false := by
 unfold Region.ready at h
 rw [List.mem_filter] at h
 have h2 := h.2
 simp only [Bool.and_eq_true, Bool.not_eq_true'] at h2
 have h3 := h2.1
 unfold Array.getD at h3
 split at h3
 ·rename_i hi; exact ⟨hi, h3⟩
 ·cases h3
theorem wpAny_inv {P : Program} {md : Region.Mode} {ops : Array Oper} {Q : Exit → Act → World → Prop} (Inv : Array Bool → Act → World → Prop)
  (hd : ∀ l a w, Inv l a w → Region.ready md ops l = [] → Q .normal a w)
  (hs : ∀ l a w i, Inv l a w → i ∈ Region.ready md ops l → wpOp P ops Q i (Inv (l.setIfInBounds i true)) a w) :
  ∀ (fuel : Nat) (l : Array Bool) (a : Act) (w : World), Inv l a w → l.toList.count false ≤ fuel → wpAny P md ops Q fuel l a w
 | 0, l, a, w, h, hc => by
  have hr : Region.ready md ops l = [] := by
   cases hr : Region.ready md ops l with
   | nil => rfl
   | cons i r =>
    obtain ⟨hi, he⟩ := ready_false (md := md) (ops := ops) (l := l) (i := i) (by rw [hr]; simp)
    have : false ∈ l.toList := by rw [← he]; simp
    have := List.count_pos_iff.2 this
    omega
  exact ⟨hr, hd l a w h hr⟩
 | fuel + 1, l, a, w, h, hc => by
  refine ⟨fun hr => hd l a w h hr, fun i hi => wpOp_mono (fun a w h' => ?_) (hs l a w i h hi)⟩
  refine wpAny_inv Inv hd hs fuel _ a w h' ?_
  obtain ⟨hl, he⟩ := ready_false hi
  have hl' : i < l.toList.length := by simpa using hl
  rw [Array.toList_setIfInBounds, List.count_set hl']
  have e1 : l.toList[i] = false := by simpa using he
  have hpos : 0 < l.toList.count false := List.count_pos_iff.2 (by rw [← e1]; exact List.getElem_mem _)
  rw [e1, if_pos (by decide), if_neg (by decide)]
  omega
def zeros8 : List Int := [0, 0, 0, 0, 0, 0, 0, 0]
def fives4 : List Int := [5, 0, 0, 0]
def doneV : List Int := [15, 0, 0, 0, 0, 0, 0, 0]
def doneP : List (Int × Int) := [(1, 30)]
def BodyAt (w : World) (v : Value) : Prop := ∃ ad c, v = .slice ad imageL.length c ∧ InSl w imageL v ∧ (ad = none → imageL.length = 0 ∧ c = 0)
theorem BodyAt.below {w w' : World} {v : Value} (h : BodyAt w v) (hb : Below w.heap.size w w') : BodyAt w' v := by
 obtain ⟨ad, c, h1, h2, h3⟩ := h
 exact ⟨ad, c, h1, h2.below hb, h3⟩
def endV (vb vc : Nat) (pad : Option Addr) (pcap : Nat) : Value := .agg #[.slice (some ⟨vb, 0, none⟩) 8 vc, .slice pad 1 pcap, .int .i64 28]
def okV : Value := .agg #[.int .i64 0, .int .i64 0]
def RanAt (w : World) (vb vc : Nat) (pad : Option Addr) (pcap : Nat) : Prop := VB w vb vc doneV ∧ ∃ B, w.ownsRow B 43 2 (.slice pad 1 pcap) 1 (putVs doneP)
theorem RanAt.move {w w' : World} {vb vc pcap : Nat} {pad : Option Addr} (h : RanAt w vb vc pad pcap) (hb : ∀ (k : Nat) (cs : Array Value) (t : TypeId), (t = 3 ∨ t = 43) → w.heap[k]? = some (Obj.cells cs t (0, 0)) → w'.heap[k]? = some (Obj.cells cs t (0, 0))) : RanAt w' vb vc pad pcap := by
 obtain ⟨⟨l8, cs, h1, h2, h3⟩, B, hl, h4⟩ := h
 refine ⟨⟨l8, cs, hb _ _ _ (.inl rfl) h1, h2, h3⟩, B, hl, ?_⟩
 rcases h4 with h4 | ⟨g, cap, cur, e, hB, hg, hr⟩
 ·exact .inl h4
 ·exact .inr ⟨g, cap, cur, e, hB, hb _ _ _ (.inr rfl) hg, hr⟩
theorem RanAt.below {w w' : World} {vb vc pcap : Nat} {pad : Option Addr} (h : RanAt w vb vc pad pcap) (hb : Below w.heap.size w w') : RanAt w' vb vc pad pcap :=
 h.move fun k _ _ _ hk => (hb.block k (Array.getElem?_eq_some_iff.1 hk).1).trans hk
def Blk3 (w w' : World) (x : Value) (c0 c1 c2 : Value) : Prop := ∃ g, x = .pointer (some ⟨g, 0, none⟩) ∧ w.heap.size ≤ g ∧ w'.heap[g]? = some (.cells #[c0, c1, c2] 27 (0, 0))
def Blk2 (w w' : World) (x : Value) (c0 c1 : Value) : Prop := ∃ g, x = .pointer (some ⟨g, 0, none⟩) ∧ w.heap.size ≤ g ∧ w'.heap[g]? = some (.cells #[c0, c1] 30 (0, 0))
theorem Blk3.below {w0 w w' : World} {x c0 c1 c2 : Value} (h : Blk3 w0 w x c0 c1 c2) (hb : Below w.heap.size w w') : Blk3 w0 w' x c0 c1 c2 := by
 obtain ⟨g, h1, h2, h3⟩ := h
 exact ⟨g, h1, h2, (hb.block g (Array.getElem?_eq_some_iff.1 h3).1).trans h3⟩
theorem Blk2.below {w0 w w' : World} {x c0 c1 : Value} (h : Blk2 w0 w x c0 c1) (hb : Below w.heap.size w w') : Blk2 w0 w' x c0 c1 := by
 obtain ⟨g, h1, h2, h3⟩ := h
 exact ⟨g, h1, h2, (hb.block g (Array.getElem?_eq_some_iff.1 h3).1).trans h3⟩
structure DF (w : World) (l0 l1 l2 l3 l4 l5 l6 l7 l8 l9 l10 : Bool) (x1 x2 x3 x4 x5 x6 x7 x8 x9 : Value) (w' : World) : Prop where
 bel : Below w.heap.size w w'
 mid : (l3 = false ∧ l4 = false ∧ l5 = false ∧ l6 = false ∧ l9 = false ∧ l10 = false ∧ (l0 = true → BodyAt w' x4) ∧ (l1 = true → ∃ k, x5 = .slice (some ⟨k, 0, none⟩) 8 8 ∧ IntSl w' zeros8 x5) ∧ (l2 = true → ∃ k, x6 = .slice (some ⟨k, 0, none⟩) 4 4 ∧ IntSl w' fives4 x6)) ∨
  (l3 = true ∧ l0 = true ∧ l1 = true ∧ l2 = true ∧ ∃ vb vc pad pcap, RanAt w' vb vc pad pcap ∧ x7 = .tuple #[endV vb vc pad pcap, okV] ∧ (l4 = true → x3 = .tuple #[endV vb vc pad pcap, okV]) ∧ (l4 = false → l5 = false ∧ l6 = false) ∧ (l5 = true → x8 = endV vb vc pad pcap) ∧ (l5 = false → l9 = false) ∧ (l6 = true → x9 = okV) ∧ (l6 = false → l10 = false))
 b3 : (l7 = false ∧ l9 = false) ∨ (l7 = true ∧ ∃ c0 c1 c2, Blk3 w w' x1 c0 c1 c2 ∧ (l9 = true → x8 = .agg #[c0, c1, c2]))
 b2 : (l8 = false ∧ l10 = false) ∨ (l8 = true ∧ ∃ c0 c1, Blk2 w w' x2 c0 c1 ∧ (l10 = true → x9 = .agg #[c0, c1]))
theorem DF.grow {w : World} {l0 l1 l2 l3 l4 l5 l6 l7 l8 l9 l10 : Bool} {x1 x2 x3 x4 x5 x6 x7 x8 x9 : Value} {w' w'' : World} (h : DF w l0 l1 l2 l3 l4 l5 l6 l7 l8 l9 l10 x1 x2 x3 x4 x5 x6 x7 x8 x9 w') (hb : Below w'.heap.size w' w'') : DF w l0 l1 l2 l3 l4 l5 l6 l7 l8 l9 l10 x1 x2 x3 x4 x5 x6 x7 x8 x9 w'' := by
 obtain ⟨h1, h2, h3, h4⟩ := h
 refine ⟨below_seq h1 hb, ?_, ?_, ?_⟩
 ·rcases h2 with ⟨a, b, c, d, e, f, g, i, j⟩ | ⟨a, b, c, d, vb, vc, pad, pcap, h, r⟩
  ·refine .inl ⟨a, b, c, d, e, f, fun q => (g q).below hb, fun q => ?_, fun q => ?_⟩
   ·obtain ⟨k, e, hk⟩ := i q; exact ⟨k, e, hk.below hb⟩
   ·obtain ⟨k, e, hk⟩ := j q; exact ⟨k, e, hk.below hb⟩
  ·exact .inr ⟨a, b, c, d, vb, vc, pad, pcap, h.below hb, r⟩
 ·rcases h3 with h3 | ⟨a, c0, c1, c2, h, r⟩
  ·exact .inl h3
  ·exact .inr ⟨a, c0, c1, c2, h.below hb, r⟩
 ·rcases h4 with h4 | ⟨a, c0, c1, h, r⟩
  ·exact .inl h4
  ·exact .inr ⟨a, c0, c1, h.below hb, r⟩
theorem DF.last {w : World} {x1 x2 x3 x4 x5 x6 x7 x8 x9 : Value} {w' : World} (h : DF w true true true true true true true true true true true x1 x2 x3 x4 x5 x6 x7 x8 x9 w') :
  ∃ g g' vb vc pad pcap, x1 = .pointer (some ⟨g, 0, none⟩) ∧ x2 = .pointer (some ⟨g', 0, none⟩) ∧ Hid (RanAt w' vb vc pad pcap ∧ Below w.heap.size w w') ∧ w'.heap[g]? = some (.cells #[.slice (some ⟨vb, 0, none⟩) 8 vc, .slice pad 1 pcap, .int .i64 28] 27 (0, 0)) ∧ w'.heap[g']? = some (.cells #[.int .i64 0, .int .i64 0] 30 (0, 0)) := by
 obtain ⟨h1, h2, h3, h4⟩ := h
 rcases h2 with ⟨a, -⟩ | ⟨-, -, -, -, vb, vc, pad, pcap, h, -, -, -, r5, -, r6, -⟩
 ·cases a
 rcases h3 with ⟨a, -⟩ | ⟨-, c0, c1, c2, ⟨g, e, -, hg⟩, r⟩
 ·cases a
 rcases h4 with ⟨a, -⟩ | ⟨-, d0, d1, ⟨g', e', -, hg'⟩, r'⟩
 ·cases a
 have e8 := (r rfl).symm.trans (r5 rfl)
 have e9 := (r' rfl).symm.trans (r6 rfl)
 unfold endV at e8
 unfold okV at e9
 simp at e8 e9
 obtain ⟨rfl, rfl, rfl⟩ := e8
 obtain ⟨rfl, rfl⟩ := e9
 exact ⟨g, g', vb, vc, pad, pcap, e, e', ⟨h, h1⟩, hg, hg'⟩
theorem DF.s0 {w : World} {l1 l2 l3 l4 l5 l6 l7 l8 l9 l10 : Bool} {x1 x2 x3 x4 x5 x6 x7 x8 x9 : Value} {w' : World} (h : DF w false l1 l2 l3 l4 l5 l6 l7 l8 l9 l10 x1 x2 x3 x4 x5 x6 x7 x8 x9 w') {v : Value} (hv : BodyAt w' v) :
  DF w true l1 l2 l3 l4 l5 l6 l7 l8 l9 l10 x1 x2 x3 v x5 x6 x7 x8 x9 w' := by
 obtain ⟨h1, h2, h3, h4⟩ := h
 refine ⟨h1, ?_, h3, h4⟩
 rcases h2 with ⟨a, b, c, d, e, f, -, i, j⟩ | ⟨-, b, -⟩
 ·exact .inl ⟨a, b, c, d, e, f, fun _ => hv, i, j⟩
 ·cases b
theorem DF.s1 {w : World} {l0 l2 l3 l4 l5 l6 l7 l8 l9 l10 : Bool} {x1 x2 x3 x4 x5 x6 x7 x8 x9 : Value} {w' : World} (h : DF w l0 false l2 l3 l4 l5 l6 l7 l8 l9 l10 x1 x2 x3 x4 x5 x6 x7 x8 x9 w') {v : Value} (hv : ∃ k, v = .slice (some ⟨k, 0, none⟩) 8 8 ∧ IntSl w' zeros8 v) :
  DF w l0 true l2 l3 l4 l5 l6 l7 l8 l9 l10 x1 x2 x3 x4 v x6 x7 x8 x9 w' := by
 obtain ⟨h1, h2, h3, h4⟩ := h
 refine ⟨h1, ?_, h3, h4⟩
 rcases h2 with ⟨a, b, c, d, e, f, g, -, j⟩ | ⟨-, -, b, -⟩
 ·exact .inl ⟨a, b, c, d, e, f, g, fun _ => hv, j⟩
 ·cases b
theorem DF.s2 {w : World} {l0 l1 l3 l4 l5 l6 l7 l8 l9 l10 : Bool} {x1 x2 x3 x4 x5 x6 x7 x8 x9 : Value} {w' : World} (h : DF w l0 l1 false l3 l4 l5 l6 l7 l8 l9 l10 x1 x2 x3 x4 x5 x6 x7 x8 x9 w') {v : Value} (hv : ∃ k, v = .slice (some ⟨k, 0, none⟩) 4 4 ∧ IntSl w' fives4 v) :
  DF w l0 l1 true l3 l4 l5 l6 l7 l8 l9 l10 x1 x2 x3 x4 x5 v x7 x8 x9 w' := by
 obtain ⟨h1, h2, h3, h4⟩ := h
 refine ⟨h1, ?_, h3, h4⟩
 rcases h2 with ⟨a, b, c, d, e, f, g, i, -⟩ | ⟨-, -, -, b, -⟩
 ·exact .inl ⟨a, b, c, d, e, f, g, i, fun _ => hv⟩
 ·cases b
theorem DF.s3 {w : World} {l4 l5 l6 l7 l8 l9 l10 : Bool} {x1 x2 x3 x4 x5 x6 x7 x8 x9 : Value} {w' : World} (h : DF w true true true false l4 l5 l6 l7 l8 l9 l10 x1 x2 x3 x4 x5 x6 x7 x8 x9 w') {vb vc pcap : Nat} {pad : Option Addr} (hv : RanAt w' vb vc pad pcap) :
  DF w true true true true l4 l5 l6 l7 l8 l9 l10 x1 x2 x3 x4 x5 x6 (.tuple #[endV vb vc pad pcap, okV]) x8 x9 w' := by
 obtain ⟨h1, h2, h3, h4⟩ := h
 refine ⟨h1, ?_, h3, h4⟩
 rcases h2 with ⟨a, b, c, d, e, f, g, i, -⟩ | ⟨b, -⟩
 ·subst b c d e f
  exact .inr ⟨rfl, rfl, rfl, rfl, vb, vc, pad, pcap, hv, rfl, (fun h => by cases h), (fun _ => ⟨rfl, rfl⟩), (fun h => by cases h), (fun _ => rfl), (fun h => by cases h), (fun _ => rfl)⟩
 ·cases b
theorem DF.s4 {w : World} {l0 l1 l2 l5 l6 l7 l8 l9 l10 : Bool} {x1 x2 x3 x4 x5 x6 x7 x8 x9 : Value} {w' : World} (h : DF w l0 l1 l2 true false l5 l6 l7 l8 l9 l10 x1 x2 x3 x4 x5 x6 x7 x8 x9 w')  :
  DF w l0 l1 l2 true true l5 l6 l7 l8 l9 l10 x1 x2 x7 x4 x5 x6 x7 x8 x9 w' := by
 obtain ⟨h1, h2, h3, h4⟩ := h
 refine ⟨h1, ?_, h3, h4⟩
 rcases h2 with ⟨a, -⟩ | ⟨a, b, c, d, vb, vc, pad, pcap, h, e7, -, e4, r⟩
 ·cases a
 ·obtain ⟨rfl, rfl⟩ := e4 rfl
  exact .inr ⟨a, b, c, d, vb, vc, pad, pcap, h, e7, (fun _ => e7), (fun h => by cases h), r⟩
theorem DF.s5 {w : World} {l0 l1 l2 l3 l6 l7 l8 l9 l10 : Bool} {x1 x2 x3 x4 x5 x6 x7 x8 x9 : Value} {w' : World} (h : DF w l0 l1 l2 l3 true false l6 l7 l8 l9 l10 x1 x2 x3 x4 x5 x6 x7 x8 x9 w') {v : Value} (hv : ∀ y z, x3 = .tuple #[y, z] → v = y) :
  DF w l0 l1 l2 l3 true true l6 l7 l8 l9 l10 x1 x2 x3 x4 x5 x6 x7 v x9 w' := by
 obtain ⟨h1, h2, h3, h4⟩ := h
 rcases h2 with ⟨-, a, -⟩ | ⟨a, b, c, d, vb, vc, pad, pcap, h, e7, e4, -, -, e5, r⟩
 ·cases a
 ·have e9 := e5 rfl
  subst e9
  refine ⟨h1, .inr ⟨a, b, c, d, vb, vc, pad, pcap, h, e7, e4, (fun h => by cases h), (fun _ => hv _ _ (e4 rfl)), (fun h => by cases h), r⟩, ?_, h4⟩
  rcases h3 with h3 | ⟨q, c0, c1, c2, hb, -⟩
  ·exact .inl h3
  ·exact .inr ⟨q, c0, c1, c2, hb, fun h => by cases h⟩
theorem DF.s6 {w : World} {l0 l1 l2 l3 l5 l7 l8 l9 l10 : Bool} {x1 x2 x3 x4 x5 x6 x7 x8 x9 : Value} {w' : World} (h : DF w l0 l1 l2 l3 true l5 false l7 l8 l9 l10 x1 x2 x3 x4 x5 x6 x7 x8 x9 w') {v : Value} (hv : ∀ y z, x3 = .tuple #[y, z] → v = z) :
  DF w l0 l1 l2 l3 true l5 true l7 l8 l9 l10 x1 x2 x3 x4 x5 x6 x7 x8 v w' := by
 obtain ⟨h1, h2, h3, h4⟩ := h
 rcases h2 with ⟨-, a, -⟩ | ⟨a, b, c, d, vb, vc, pad, pcap, h, e7, e4, -, e5, e5', -, e6⟩
 ·cases a
 ·have e10 := e6 rfl
  subst e10
  refine ⟨h1, .inr ⟨a, b, c, d, vb, vc, pad, pcap, h, e7, e4, (fun h => by cases h), e5, e5', (fun _ => hv _ _ (e4 rfl)), (fun h => by cases h)⟩, h3, ?_⟩
  rcases h4 with h4 | ⟨q, c0, c1, hb, -⟩
  ·exact .inl h4
  ·exact .inr ⟨q, c0, c1, hb, fun h => by cases h⟩
theorem DF.s7 {w : World} {l0 l1 l2 l3 l4 l5 l6 l8 l9 l10 : Bool} {x1 x2 x3 x4 x5 x6 x7 x8 x9 : Value} {w' : World} (h : DF w l0 l1 l2 l3 l4 l5 l6 false l8 l9 l10 x1 x2 x3 x4 x5 x6 x7 x8 x9 w') {v c0 c1 c2 : Value} (hv : Blk3 w w' v c0 c1 c2) :
  DF w l0 l1 l2 l3 l4 l5 l6 true l8 l9 l10 v x2 x3 x4 x5 x6 x7 x8 x9 w' := by
 obtain ⟨h1, h2, h3, h4⟩ := h
 refine ⟨h1, h2, ?_, h4⟩
 rcases h3 with ⟨-, e⟩ | ⟨q, -⟩
 ·exact .inr ⟨rfl, c0, c1, c2, hv, fun h => by rw [e] at h; cases h⟩
 ·cases q
theorem DF.s8 {w : World} {l0 l1 l2 l3 l4 l5 l6 l7 l9 l10 : Bool} {x1 x2 x3 x4 x5 x6 x7 x8 x9 : Value} {w' : World} (h : DF w l0 l1 l2 l3 l4 l5 l6 l7 false l9 l10 x1 x2 x3 x4 x5 x6 x7 x8 x9 w') {v c0 c1 : Value} (hv : Blk2 w w' v c0 c1) :
  DF w l0 l1 l2 l3 l4 l5 l6 l7 true l9 l10 x1 v x3 x4 x5 x6 x7 x8 x9 w' := by
 obtain ⟨h1, h2, h3, h4⟩ := h
 refine ⟨h1, h2, h3, ?_⟩
 rcases h4 with ⟨-, e⟩ | ⟨q, -⟩
 ·exact .inr ⟨rfl, c0, c1, hv, fun h => by rw [e] at h; cases h⟩
 ·cases q
theorem other_block {w : World} {g k : Nat} {cs cs' : Array Value} {t t' : TypeId} {a : Addr} {u : Value} (hg : w.heap[g]? = some (Obj.cells cs t (0, 0))) (hk : w.heap[k]? = some (Obj.cells cs' t' (0, 0))) (ht : t ≠ t') (ha : a.block = g) : (w.setCell a u).heap[k]? = some (Obj.cells cs' t' (0, 0)) := by
 have hne : k ≠ g := by
  intro e
  subst e
  rw [hg] at hk
  simp at hk
  exact ht hk.2
 rw [Below.heap_setCell _ _ _ _ (by rw [ha]; exact hne)]
 exact hk
theorem DF.shape {w : World} {l0 l1 l2 l3 l4 l5 l6 l7 l8 l9 l10 : Bool} {x1 x2 x3 x4 x5 x6 x7 x8 x9 : Value} {w' : World} (h : DF w l0 l1 l2 l3 l4 l5 l6 l7 l8 l9 l10 x1 x2 x3 x4 x5 x6 x7 x8 x9 w') (h3 : l3 = true) : ∃ vb vc pad pcap, (l4 = true → x3 = .tuple #[endV vb vc pad pcap, okV]) ∧ (l5 = true → x8 = endV vb vc pad pcap) ∧ (l6 = true → x9 = okV) := by
 rcases h.mid with ⟨a, -⟩ | ⟨-, -, -, -, vb, vc, pad, pcap, -, -, e4, -, e5, -, e6, -⟩
 ·rw [h3] at a; cases a
 ·exact ⟨vb, vc, pad, pcap, e4, e5, e6⟩
theorem DF.s9 {w : World} {l0 l1 l2 l4 l6 l8 l9 l10 : Bool} {x1 x2 x3 x4 x5 x6 x7 x8 x9 : Value} {w' : World} {g : Nat} {c0 c1 c2 d0 d1 d2 : Value} (h : DF w l0 l1 l2 true l4 true l6 true l8 l9 l10 x1 x2 x3 x4 x5 x6 x7 x8 x9 w') (hx : x1 = .pointer (some ⟨g, 0, none⟩)) (hg0 : w.heap.size ≤ g) (hg : w'.heap[g]? = some (.cells #[c0, c1, c2] 27 (0, 0))) (h8 : x8 = .agg #[d0, d1, d2]) :
  DF w l0 l1 l2 true l4 true l6 true l8 true l10 x1 x2 x3 x4 x5 x6 x7 x8 x9 (((w'.setCell ⟨g, 0, none⟩ d0).setCell ⟨g, 1, none⟩ d1).setCell ⟨g, 2, none⟩ d2) := by
 obtain ⟨h1, h2, h3, h4⟩ := h
 have q1 := setCell_at (i := 0) (u := d0) hg
 have q2 := setCell_at (i := 1) (u := d1) q1
 have q3 := setCell_at (i := 2) (u := d2) q2
 have mv : ∀ (k : Nat) (cs : Array Value) (t : TypeId), t ≠ 27 → w'.heap[k]? = some (Obj.cells cs t (0, 0)) → (((w'.setCell ⟨g, 0, none⟩ d0).setCell ⟨g, 1, none⟩ d1).setCell ⟨g, 2, none⟩ d2).heap[k]? = some (Obj.cells cs t (0, 0)) := fun k cs t ht hk =>
  other_block q2 (other_block q1 (other_block hg hk (Ne.symm ht) rfl) (Ne.symm ht) rfl) (Ne.symm ht) rfl
 refine ⟨((h1.setCell hg0 _).setCell hg0 _).setCell hg0 _, ?_, .inr ⟨rfl, d0, d1, d2, ⟨g, hx, hg0, by simpa using q3⟩, fun _ => h8⟩, ?_⟩
 ·rcases h2 with ⟨a, -⟩ | ⟨a, b, c, d, vb, vc, pad, pcap, h, e7, e4, e4', e5, -, r⟩
  ·cases a
  ·exact .inr ⟨a, b, c, d, vb, vc, pad, pcap, h.move (fun k cs t ht hk => mv k cs t (by rcases ht with rfl | rfl <;> decide) hk), e7, e4, e4', e5, (fun h => by cases h), r⟩
 ·rcases h4 with h4 | ⟨q, b0, b1, ⟨k, hk1, hk2, hk3⟩, r⟩
  ·exact .inl h4
  ·exact .inr ⟨q, b0, b1, ⟨k, hk1, hk2, mv k _ 30 (by decide) hk3⟩, r⟩
theorem zeros_made (w : World) : IntSl (w.alloc (.cells #[.int .i64 0, .int .i64 0, .int .i64 0, .int .i64 0, .int .i64 0, .int .i64 0, .int .i64 0, .int .i64 0] 3)) zeros8 (.slice (some ⟨w.heap.size, 0, none⟩) 8 8) := by
 refine ⟨_, _, rfl, .inr ⟨w.heap.size, 0, rfl, fun j hj => ?_⟩⟩
 have := (cells_of (l := [.int .i64 0, .int .i64 0, .int .i64 0, .int .i64 0, .int .i64 0, .int .i64 0, .int .i64 0, .int .i64 0]) (heap_alloc_new w (.cells #[.int .i64 0, .int .i64 0, .int .i64 0, .int .i64 0, .int .i64 0, .int .i64 0, .int .i64 0, .int .i64 0] 3))).1 j (.int .i64 (zeros8.getD j 0))
 rw [Nat.zero_add]
 apply this
 have hj' : j < 8 := hj
 have : j = 0 ∨ j = 1 ∨ j = 2 ∨ j = 3 ∨ j = 4 ∨ j = 5 ∨ j = 6 ∨ j = 7 := by omega
 rcases this with rfl | rfl | rfl | rfl | rfl | rfl | rfl | rfl <;> rfl
theorem fives_made (w : World) : IntSl (w.alloc (.cells #[.int .i64 5, .int .i64 0, .int .i64 0, .int .i64 0] 3)) fives4 (.slice (some ⟨w.heap.size, 0, none⟩) 4 4) := by
 refine ⟨_, _, rfl, .inr ⟨w.heap.size, 0, rfl, fun j hj => ?_⟩⟩
 have := (cells_of (l := [.int .i64 5, .int .i64 0, .int .i64 0, .int .i64 0]) (heap_alloc_new w (.cells #[.int .i64 5, .int .i64 0, .int .i64 0, .int .i64 0] 3))).1 j (.int .i64 (fives4.getD j 0))
 rw [Nat.zero_add]
 apply this
 have hj' : j < 4 := hj
 have : j = 0 ∨ j = 1 ∨ j = 2 ∨ j = 3 := by omega
 rcases this with rfl | rfl | rfl | rfl <;> rfl
set_option maxRecDepth 20000 in
set_option maxHeartbeats 4000000 in
theorem image_any (w : World) : Calls Tryd.prog 19 #[] w fun r w' => (∃ ad c, r = .returned (.slice ad imageL.length c) ∧ InSl w' imageL (.slice ad imageL.length c) ∧ (ad = none → imageL.length = 0 ∧ c = 0)) ∧ Below w.heap.size w w' := by
 go_enter Tryd.func19, Tryd.ntmps19
 go_wp2_with fail
 go_ret
 refine ⟨⟨_, _, rfl, ?_, fun e => by cases e⟩, below_new _ _⟩
 refine ⟨_, _, rfl, .inr ⟨w.heap.size, 0, rfl, fun j hj => ?_⟩⟩
 have h := (cells_of (l := insVs imageL) (heap_alloc_new w (.cells (insVs imageL).toArray 35))).1
 obtain ⟨a0, a1, a2⟩ := insVs_at imageL j hj
 rw [Nat.zero_add]
 exact ⟨h _ _ a0, h _ _ a1, h _ _ a2⟩
theorem image_body (w : World) : Calls Tryd.prog 19 #[] w fun r w' => ∃ v, r = .returned v ∧ BodyAt w' v ∧ Below w.heap.size w w' :=
 (image_any w).mono fun _ _ ⟨⟨ad, c, h1, h2, h3⟩, h4⟩ => ⟨_, h1, ⟨ad, c, rfl, h2, h3⟩, h4⟩
theorem setCells_else {g k : Nat} (h : k ≠ g) : ∀ (l : List Value) (o : Nat) (w : World), (w.setCells g o l).heap[k]? = w.heap[k]?
 | [], _, _ => rfl
 | v :: r, o, w => by
  show ((w.setCell ⟨g, o, none⟩ v).setCells g (o + 1) r).heap[k]? = _
  rw [setCells_else h r (o + 1) _, Below.heap_setCell _ _ _ _ h]
set_option maxRecDepth 20000 in
set_option maxHeartbeats 4000000 in
theorem SpoilN_own (w : World) (B : Nat) (v : Value) (n : Nat) (xs : List Value) (h : w.ownsRow B 3 1 v n xs) :
  Calls Tryd.prog 16 #[v] w fun r w' => r = .returned (.tuple #[]) ∧ Below B w w' ∧ ∀ k, v.ownBlock ≠ some k → w'.heap[k]? = w.heap[k]? := by
 obtain ⟨i0, hi0, hz0, hz1, hz2⟩ := info_parts info3
 obtain ⟨-, ⟨rfl, rfl⟩ | ⟨g, cap, cur, rfl, hB, hg, hn, hm, hs, -⟩⟩ := h
 ·have hcl : ∀ ty, (Builtin.clear_ #[23] ty #[.slice none 0 0]).run Tryd.prog w = .ok (.tuple #[]) w := fun ty => by
   simp [Builtin.clear_, run_underlying Tryd.underlying23]
  go_enter Tryd.func16, Tryd.ntmps16
  go_wp2
  go_end0
  exact ⟨rfl, Below.refl _ _, fun _ _ => rfl⟩
 ·have hz : ∀ w, (zeroValue 3).run Tryd.prog w = .ok (.int .i64 0) w := fun w => by simp [zeroValue, typeInfo, hi0, hz0]
  have hcl : ∀ ty, (Builtin.clear_ #[23] ty #[.slice (some ⟨g, 0, none⟩) cap cap]).run Tryd.prog w = .ok (.tuple #[]) (w.setCells g 0 (List.replicate cap (.int .i64 0))) := fun ty => by
   by_cases hc : cap = 0
   ·subst hc
    simp [Builtin.clear_, run_underlying Tryd.underlying23, World.setCells]
   ·exact Lib.run_clear_slice w 23 3 ty (.int .i64 0) Tryd.underlying23 hz rfl rfl g 0 cap cap (by omega) (fun j hj => by unfold World.cell?; rw [hg]; simp; omega) (fun j hj => by unfold World.frozen?; rw [hg]; simp)
  have HB : Hid (Below B w (w.setCells g 0 (List.replicate cap (.int .i64 0))) ∧ ∀ k, (Value.slice (some ⟨g, 0, none⟩) n cap).ownBlock ≠ some k → (w.setCells g 0 (List.replicate cap (.int .i64 0))).heap[k]? = w.heap[k]?) := ⟨below_setCells hB _ 0 w, fun k hk => setCells_else (fun e => hk (by rw [e]; rfl)) _ _ _⟩
  unfold maxLen at hm
  clear hg hz hs
  go_enter Tryd.func16, Tryd.ntmps16
  go_wp2
  go_end0
  exact ⟨rfl, HB.out⟩
def Kept2 (w : World) (g : Nat) (x y z c k : Value) : Prop := w.heap[g]? = some (.cells #[x, y, z] 27 (0, 0)) ∧ w.heap[g + 1]? = some (.cells #[c, k] 30 (0, 0))
theorem Kept2.below {w w' : World} {g : Nat} {x y z c k : Value} (h : Kept2 w g x y z c k) (hb : Below w.heap.size w w') : Kept2 w' g x y z c k :=
 ⟨(hb.block _ (Array.getElem?_eq_some_iff.1 h.1).1).trans h.1, (hb.block _ (Array.getElem?_eq_some_iff.1 h.2).1).trans h.2⟩
theorem Kept2.made (w : World) (x y z c k : Value) : Kept2 ((w.alloc (.cells #[x, y, z] 27)).alloc (.cells #[c, k] 30)) w.heap.size x y z c k := by
 constructor
 ·rw [Below.heap_alloc _ _ _ (by simp)]; exact heap_alloc_new w _
 ·have := heap_alloc_new (w.alloc (.cells #[x, y, z] 27)) (.cells #[c, k] 30)
  simpa using this
def Marks (w : World) : Prop := w.cell? ⟨0, 0, none⟩ = some (.int .i64 (-1)) ∧ w.cell? ⟨0, 1, none⟩ = some (.int .i64 (-2)) ∧ w.cell? ⟨0, 2, none⟩ = some (.int .i64 (-3))
theorem Marks.below {w w' : World} (h : Marks w) (hb : Below w.heap.size w w') : Marks w' := ⟨below_cell hb h.1, below_cell hb h.2.1, below_cell hb h.2.2⟩
theorem ownsRow_own {w w' : World} {B n size : Nat} {e : TypeId} {v : Value} {xs : List Value} (h : w.ownsRow B e size v n xs) (hb : ∀ k, v.ownBlock = some k → w'.heap[k]? = w.heap[k]?) : w'.ownsRow B e size v n xs := by
 obtain ⟨hl, h | ⟨g, cap, cur, he, hB, hg, hr⟩⟩ := h
 ·exact ⟨hl, .inl h⟩
 ·refine ⟨hl, .inr ⟨g, cap, cur, he, hB, (hb g ?_).trans hg, hr⟩⟩
  rw [he]; rfl
end Go.Proofs.YtibcbdihphbfeacDoor
