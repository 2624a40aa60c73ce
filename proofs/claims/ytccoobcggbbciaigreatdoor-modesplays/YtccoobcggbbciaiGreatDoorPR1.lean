import Derived.Test.YtccoobcggbbciaiGreatDoorJJ
import Derived.Test.YtccoobcggbbciaiGreatDoorDE0
import Derived.OwnWalk
import Derived.Test.YtccoobcggbbciaiGreatDoorMM
import Derived.Test.YtccoobcggbbciaiGreatDoorSLA
import Derived.Test.YtccoobcggbbciaiGreatDoorPC1
import Derived.Test.YtccoobcggbbciaiGreatDoorMV
import Derived.Test.YtccoobcggbbciaiGreatDoorPC3
namespace Go.Proofs.YtccoobcggbbciaiGreatDoor
open Go.ChangeShapes Go.WideShapes Go.ChangeAt Go.RowKit

theorem marks_cell (w : World) (m : Int) (j : Nat) (u : Value) (hj : [Value.int .i64 m, .int .i64 m, .int .i64 m][j]? = some u) : (w.alloc (.cells #[.int .i64 m, .int .i64 m, .int .i64 m] 3)).cell? ((⟨w.heap.size, 0, none⟩ : Addr).add j) = some u := by
  rw [Addr.add_lit]
  have := (cells_of (l := [_, _, _]) (heap_alloc_new w (.cells #[.int .i64 m, .int .i64 m, .int .i64 m] 3))).1 j u hj
  simpa using this

theorem lentOfN {w : World} {B g : Nat} {l : List Int} {m : Int} (h : w.ownsRow B 3 1 (.slice (some ⟨g, 0, none⟩) (l.length + 3) (l.length + 3)) (l.length + 3) (l.flatMap nuV ++ [.int .i64 m, .int .i64 m, .int .i64 m])) : Lent nuV w l m (.slice (some ⟨g, 0, none⟩) l.length (l.length + 3)) := by
  refine ⟨g, 0, l.length + 3, rfl, Nat.le_refl _, fun q u hq => ?_⟩
  rw [List.flatMap_append] at hq
  have hql := (List.getElem?_eq_some_iff.1 hq).1
  rw [List.length_append, flat_length nuV 1 nuV_len] at hql
  have h9 : ([m, m, m].flatMap nuV).length = 3 := rfl
  rw [Nat.zero_add]
  exact (h.cellAt q (by omega)).trans hq

set_option maxRecDepth 20000 in
set_option maxHeartbeats 4000000 in
/-- Lend, of numbers. -/
theorem LendN_any (w : World) (vs : List Int) (m : Int) (v : Value) (hl : vs.length ≤ 4194304) (hv : RowSl nuV w vs v) :
    Calls Tryz.prog 11 #[v, .int .i64 m] w fun r w' => ∃ u, r = .returned u ∧ Lent nuV w' vs m u ∧ Below w.heap.size w w' := by
  obtain ⟨ad, c, rfl, hnil, -, h⟩ := hv
  obtain ⟨i0, hi0, hz0, hz1, hz2⟩ := info_parts info3
  obtain ⟨w1, hrun, hown, hgr⟩ := run_make_own (P := Tryz.prog) w w.heap.size 24 3 i0 _ 1 Tryz.underlying24 hi0 hz0 hz1 .i64 .i64 (vs.length + 3) (by rw [hz2]; omega) (by unfold maxLen; omega) (Nat.le_refl _)
  have hmk : (Instr.makeSlice 24 (.int .i64 0) (.int .i64 ((vs.length : Int) + 3))).run Tryz.prog w = .ok (.slice (some ⟨w.heap.size, 0, none⟩) 0 (vs.length + 3)) w1 := hrun
  have hb1 : Below w.heap.size w w1 := (Below.refl _ w).grown hgr (Nat.le_refl _) (by intro k hk; cases hk)
  have HM : Hid (w1.ownsRow w.heap.size 3 1 (.slice (some ⟨w.heap.size, 0, none⟩) 0 (vs.length + 3)) 0 [] ∧ Below w.heap.size w w1 ∧ (∀ ad', ad = some ad' → ∀ j u, (vs.flatMap nuV)[j]? = some u → w1.cell? (ad'.add j) = some u) ∧ (ad = none → vs.length = 0 ∧ c = 0)) := ⟨hown, hb1, rowArg h hb1, hnil⟩
  clear hrun hown hgr hb1 h hnil
  go_enter Tryz.func11, Tryz.ntmps11
  go_wp2_with (first
    | (at_builtin; refine wpList_append_fits_any _ rfl (.tmp 9) (.tmp 10) 24 rfl w.heap.size 3 i0 1 Tryz.underlying24 hi0 hz1 w.heap.size 0 (vs.length + 3) [] rfl HM.out.1 ad vs.length c (vs.flatMap nuV) rfl (flat_length nuV 1 nuV_len vs) HM.out.2.2.2 HM.out.2.2.1 (fun u hu => flatOneN hu) (by omega) ?_; intro w2 ho2 hg2; simp only [Nat.zero_add, List.nil_append] at ho2 ⊢; have H2 : Hid (w2.ownsRow w.heap.size 3 1 (.slice (some ⟨w.heap.size, 0, none⟩) vs.length (vs.length + 3)) vs.length (vs.flatMap nuV) ∧ Below w.heap.size w w2) := ⟨ho2, HM.out.2.1.grown hg2 HM.out.2.1.size (by intro k hk; cases hk; exact Nat.le_refl _)⟩; clear ho2 hg2)
    | (at_builtin; refine wpList_append_fits_any _ rfl (.tmp 11) (.tmp 15) 24 rfl w.heap.size 3 i0 1 Tryz.underlying24 hi0 hz1 w.heap.size vs.length (vs.length + 3) (vs.flatMap nuV) rfl (ownsRow_below H2.out.1 ((Below.refl _ _).alloc (Nat.le_refl _) _)) (some ⟨w2.heap.size, 0, none⟩) 3 3 [.int .i64 m, .int .i64 m, .int .i64 m] rfl rfl (by intro e; cases e) (by intro ad' e j u hj; cases e; exact marks_cell w2 m j u hj) (by intro u hu; simp at hu; subst hu; rfl) (Nat.le_refl _) ?_; intro w3 ho3 hg3; have H3 : Hid (w3.ownsRow w.heap.size 3 1 (.slice (some ⟨w.heap.size, 0, none⟩) (vs.length + 3) (vs.length + 3)) (vs.length + 3) (vs.flatMap nuV ++ [.int .i64 m, .int .i64 m, .int .i64 m]) ∧ Below w.heap.size w w3) := ⟨ho3, (H2.out.2.alloc H2.out.2.size _).grown hg3 (by have := H2.out.2.size; simp; omega) (by intro k hk; cases hk; exact Nat.le_refl _)⟩; clear ho3 hg3))
  go_ret
  exact ⟨_, rfl, lentOfN H3.out.1, H3.out.2⟩

set_option maxRecDepth 20000 in
set_option maxHeartbeats 4000000 in
/-- Still, of numbers that were lent and stand as they did. -/
theorem StillN_any (w : World) (vs : List Int) (m : Int) (v v' : Value) (hl : vs.length ≤ 4194304) (h : Lent nuV w vs m v) (h' : RowSl nuV w vs v') :
    Calls Tryz.prog 17 #[v, v', .int .i64 m] w fun r w' => r = .returned (.bool true) ∧ Below w.heap.size w w' := by
  obtain ⟨b, o, cap, rfl, hcap, hrow⟩ := h
  obtain ⟨ad', c', rfl, -, -, hc'⟩ := h'
  have HR : Hid (_ ∧ _) := ⟨hrow, hc'⟩
  clear hrow hc'
  go_enter Tryz.func17, Tryz.ntmps17
  go_wp2_with fail
  go_loopw [17] (fun x wr => ∃ j : Nat, j ≤ vs.length + 3 ∧ x = .int .i64 j ∧ Below w.heap.size w wr) (fun x _ => vs.length + 3 - (intOf x).toNat)
  case atStart => exact ⟨0, Nat.zero_le _, rfl, Below.refl _ _⟩
  case round =>
    obtain ⟨j, hj, rfl, hb⟩ := hrel
    by_cases hlt : j < vs.length
    · obtain ⟨z, hz, -⟩ := drop_at hlt
      have c0 := nu_at (fun q u hq => below_cell hb (HR.out.1 q u hq)) (show (vs ++ _)[j]? = some z by rw [List.getElem?_append_left hlt]; exact hz)
      rcases HR.out.2 with h | ⟨b', o', had', hrow'⟩
      · rw [h] at hlt; simp at hlt
      subst had'
      have d0 := nu_at (fun q u hq => below_cell hb (hrow' q u hq)) hz
      clear hrow' hz
      have HB : Hid (Below w.heap.size w wr) := hb
      clear hb
      go_wp2_with fail
      go_roundw
      case rel => exact ⟨j + 1, by omega, by go_num, HB.out⟩
      case measure => simp [intOf]; omega
    · by_cases hlt2 : j < vs.length + 3
      · have c0 := lent_at (k := 0) nuV_len (fun q u hq => below_cell hb (HR.out.1 q u hq)) (by omega) hlt2 (by omega) rfl
        rw [Nat.mul_one, Nat.add_zero] at c0
        have HB : Hid (Below w.heap.size w wr) := hb
        clear hb
        go_wp2_with fail
        go_roundw
        case rel => exact ⟨j + 1, by omega, by go_num, HB.out⟩
        case measure => simp [intOf]; omega
      · have hje : j = vs.length + 3 := by omega
        subst hje
        go_wp2_with fail
        go_ret
        exact ⟨rfl, hb⟩
end Go.Proofs.YtccoobcggbbciaiGreatDoor
namespace Go.Proofs.YtccoobcggbbciaiGreatDoor
open Go.ChangeShapes Go.WideShapes Go.ChangeAt Go.RowKit

theorem grown_of_below {W W' : World} (hb : Below W.heap.size W W') : W.grownBy W' none := ⟨hb.os, hb.tape, hb.output, hb.size, fun i hi _ => hb.block i hi⟩

theorem flat_nu (xs : List Int) : xs.flatMap nuV = xs.map (Value.int .i64) := by
  induction xs with
  | nil => rfl
  | cons x r ih => rw [List.flatMap_cons, ih]; rfl

theorem row_block {W : World} {g : Nat} {xs : List Int} (h : W.heap[g]? = some (.cells (xs.map (Value.int .i64)).toArray 3 (0, 0))) : RowSl nuV W xs (.slice (some ⟨g, 0, none⟩) xs.length xs.length) :=
  ⟨_, _, rfl, (fun e => by cases e), Nat.le_refl _, .inr ⟨g, 0, rfl, fun q u hq => by
    rw [flat_nu] at hq
    rw [Nat.zero_add]
    exact (cells_of h).1 q u hq⟩⟩

/-- One's own list of numbers, or none. -/
def RowOwn (B : Nat) (W : World) (xs : List Int) (v : Value) (og : Option Nat) : Prop :=
  (og = none ∧ xs = [] ∧ v = .slice none 0 0) ∨ (∃ g, og = some g ∧ v = .slice (some ⟨g, 0, none⟩) xs.length xs.length ∧ W.heap[g]? = some (.cells (xs.map (Value.int .i64)).toArray 3 (0, 0)) ∧ B ≤ g ∧ xs.length ≤ 1000000)

theorem RowOwn.row {B : Nat} {W : World} {xs : List Int} {v : Value} {og : Option Nat} (h : RowOwn B W xs v og) : RowSl nuV W xs v := by
  rcases h with ⟨-, rfl, rfl⟩ | ⟨g, -, rfl, h, -⟩
  · exact RowSl.nil _ _
  · exact row_block h

theorem RowOwn.keep {B : Nat} {W W' : World} {xs : List Int} {v : Value} {og row : Option Nat} (h : RowOwn B W xs v og) (hg : W.grownBy W' row) (hn : ∀ g, og = some g → row ≠ some g) : RowOwn B W' xs v og := by
  rcases h with h | ⟨g, e, e2, h, hB, hl⟩
  · exact .inl h
  · exact .inr ⟨g, e, e2, (hg.block g (lt_heapM h) (fun q => hn g e q.symm)).trans h, hB, hl⟩

theorem heap_setCells {g q : Nat} (hq : q ≠ g) : ∀ (l : List Value) (o : Nat) (w : World), (w.setCells g o l).heap[q]? = w.heap[q]?
  | [], _, _ => rfl
  | v :: r, o, w => by
    have h1 := heap_setCells hq r (o + 1) (w.setCell ⟨g, o, none⟩ v)
    have h2 : (w.setCell ⟨g, o, none⟩ v).heap[q]? = w.heap[q]? := Below.heap_setCell _ _ _ _ hq
    exact h1.trans h2

theorem grown_setCells {g : Nat} (l : List Value) (w : World) : w.grownBy (w.setCells g 0 l) (some g) := by
  have hb := S8.below_setCells (N := 0) (b := g) (Nat.zero_le _) l 0 w
  exact ⟨hb.os, hb.tape, hb.output, hb.size, fun q _ hne => heap_setCells (fun e => hne (by rw [e])) l 0 w⟩

set_option maxRecDepth 20000 in
set_option maxHeartbeats 4000000 in
/-- Spoil changes one block alone. -/
theorem Spoil_row (w : World) (B : Nat) (xs : List Int) (v : Value) (og : Option Nat) (h : RowOwn B w xs v og) :
    Calls Tryz.prog 14 #[v] w fun r w' => r = .returned (.tuple #[]) ∧ w.grownBy w' og := by
  obtain ⟨i0, hi0, hz0, hz1, hz2⟩ := info_parts info3
  rcases h with ⟨rfl, rfl, rfl⟩ | ⟨g, rfl, rfl, hg, hB, hm⟩
  · have hcl : ∀ ty, (Builtin.clear_ #[24] ty #[.slice none 0 0]).run Tryz.prog w = .ok (.tuple #[]) w := fun ty => by simp [Builtin.clear_, run_underlying Tryz.underlying24]
    go_enter Tryz.func14, Tryz.ntmps14
    go_wp2
    go_end0
    exact ⟨rfl, grown_of_below (Below.refl _ _)⟩
  · have hz : ∀ w, (zeroValue 3).run Tryz.prog w = .ok (.int .i64 0) w := fun w => by simp [zeroValue, typeInfo, hi0, hz0]
    have hcl' : ∃ w1, (∀ ty, (Builtin.clear_ #[24] ty #[.slice (some ⟨g, 0, none⟩) xs.length xs.length]).run Tryz.prog w = .ok (.tuple #[]) w1) ∧ w.grownBy w1 (some g) := by
      by_cases hc : xs.length = 0
      · rw [hc]
        exact ⟨w, fun ty => by simp [Builtin.clear_, run_underlying Tryz.underlying24], ⟨rfl, rfl, rfl, Nat.le_refl _, fun _ _ _ => rfl⟩⟩
      · obtain ⟨l, hl⟩ := S8.clear_one w 24 3 24 (.int .i64 0) Tryz.underlying24 hz rfl g xs.length xs.length (by omega) (fun j hj => by unfold World.cell?; rw [hg]; simp; omega) (fun j hj => by unfold World.frozen?; rw [hg]; simp)
        exact ⟨_, fun ty => hl, grown_setCells l w⟩
    obtain ⟨w1, hcl, hb1⟩ := hcl'
    have HB : Hid (w.grownBy w1 (some g)) := hb1
    generalize xs.length = m at *
    clear hg hz hb1
    go_enter Tryz.func14, Tryz.ntmps14
    go_wp2
    go_end0
    exact ⟨rfl, HB.out⟩
end Go.Proofs.YtccoobcggbbciaiGreatDoor

namespace Go.Proofs.YtccoobcggbbciaiGreatDoor
open Go.ChangeShapes Go.WideShapes Go.ChangeAt Go.RowKit

def smallB (a b : Int) : Bool := (decide (a ≤ 300) && decide (b ≤ 3000)) || decide (4000 < a) || decide (20000 < b)
theorem small_any (w : World) (a b : Int) : Calls Tryz.prog 7 #[.int .i64 a, .int .i64 b] w fun r w' => r = .returned (.bool (smallB a b)) ∧ w' = w := by
  unfold smallB
  rcases Bool.eq_false_or_eq_true (decide (a ≤ 300)) with h1 | h1 <;> rcases Bool.eq_false_or_eq_true (decide (b ≤ 3000)) with h2 | h2 <;> rcases Bool.eq_false_or_eq_true (decide (4000 < a)) with h3 | h3 <;> rcases Bool.eq_false_or_eq_true (decide (20000 < b)) with h4 | h4 <;> rw [h1, h2, h3, h4] <;> (go_enter Tryz.func7, Tryz.ntmps7; go_wp2_with fail; go_ret; exact ⟨rfl, rfl⟩)

/-- What must come out. -/
def MpRes (set : List Cr) (cs : List Co) (tk : List Int) (u z1 z2 : Int) (rs es : List Int) (TT : Int) : Prop :=
  ((chkM set cs tk u).1 ≠ 0 ∧ z1 = (chkM set cs tk u).1 ∧ z2 = (chkM set cs tk u).2 ∧ rs = [] ∧ es = [] ∧ TT = 0) ∨
  ((chkM set cs tk u).1 = 0 ∧ z1 = 0 ∧ z2 = 0 ∧ ∃ s, PlaysT (jsF set cs tk) (hiOf set cs) (fun j => (crOf set cs j).c) u.toNat s TT ∧ rs = s.runs ∧ es = s.ends)
theorem mpRes_unique {set : List Cr} {cs : List Co} {tk : List Int} {u z1 z2 y1 y2 : Int} {rs es rs' es' : List Int} {TT TT' : Int} (h : MpRes set cs tk u z1 z2 rs es TT) (h' : MpRes set cs tk u y1 y2 rs' es' TT') : y1 = z1 ∧ y2 = z2 ∧ rs' = rs ∧ es' = es ∧ TT' = TT := by
  rcases h with ⟨a0, a1, a2, a3, a4, a5⟩ | ⟨a0, a1, a2, s, a3, a4, a5⟩ <;> rcases h' with ⟨b0, b1, b2, b3, b4, b5⟩ | ⟨b0, b1, b2, s', b3, b4, b5⟩
  · exact ⟨by omega, by omega, by rw [a3, b3], by rw [a4, b4], by omega⟩
  · exact absurd b0 a0
  · exact absurd a0 b0
  · obtain ⟨e1, e2⟩ := playsT_unique _ _ _ _ _ a3 b3
    exact ⟨by omega, by omega, by rw [b4, a4, e1], by rw [b5, a5, e1], e2.symm⟩

def Res (w W : World) (rs es : List Int) (v1 v2 : Value) : Prop := Below w.heap.size w W ∧ rs.length ≤ 1000000 ∧ es.length ≤ 1000000 ∧ ∃ o1 o2, RowOwn w.heap.size W rs v1 o1 ∧ RowOwn w.heap.size W es v2 o2 ∧ ∀ g, o1 = some g → o2 ≠ some g
theorem res_nil {w W : World} (h : Below w.heap.size w W) : Res w W [] [] (.slice none 0 0) (.slice none 0 0) := ⟨h, by simp, by simp, none, none, .inl ⟨rfl, rfl, rfl⟩, .inl ⟨rfl, rfl, rfl⟩, fun g e => by cases e⟩
theorem Res.slices {w W : World} {rs es : List Int} {v1 v2 : Value} (h : Res w W rs es v1 v2) : ∃ a1 c1 a2 c2, v1 = .slice a1 rs.length c1 ∧ v2 = .slice a2 es.length c2 := by
  obtain ⟨-, -, -, o1, o2, h1, h2, -⟩ := h
  obtain ⟨a1, c1, e1⟩ := h1.row.len
  obtain ⟨a2, c2, e2⟩ := h2.row.len
  exact ⟨a1, c1, a2, c2, e1, e2⟩

/-- The program's play, whatever it is given. -/
theorem PlayM_res (w : World) (set : List Cr) (cs : List Co) (tk : List Int) (u : Int) (v vc vt : Value) (hv : RowSl Cr.vals w set v) (hc : RowSl Co.vals w cs vc) (ht : RowSl nuV w tk vt) :
    Calls Tryz.prog 12 #[v, vc, vt, .int .i64 u] w fun r W => ∃ v1 v2 z1 z2 rs es TT, r = .returned (.tuple #[.agg #[v1, v2, .int .i64 TT], .agg #[.int .i64 z1, .int .i64 z2]]) ∧ MpRes set cs tk u z1 z2 rs es TT ∧ Res w W rs es v1 v2 := by
  by_cases h0 : (chkM set cs tk u).1 = 0
  · obtain ⟨-, hl, -, hu, -, -⟩ := chkM_ok h0
    have e : u = (u.toNat : Int) := by omega
    have hg := PlayM_good w set cs tk u.toNat v vc vt hv hc ht (by rw [← e]; exact h0)
    rw [← e] at hg
    refine hg.mono ?_
    rintro r W ⟨s, TT, rb, eb, hp, rfl, hrb, heb, hne, hlr, hle, hb⟩
    have hok := playsT_ok (chkM_jobs h0) _ _ _ hp
    have l1 := hok.runs
    have l2 := hok.ends
    rw [jsF_len] at l2
    refine ⟨_, _, 0, 0, s.runs, s.ends, TT, rfl, .inr ⟨h0, rfl, rfl, s, hp, rfl, rfl⟩, hb, by omega, by omega, some rb, some eb, .inr ⟨rb, rfl, by rw [l1], hrb, hlr, by omega⟩, .inr ⟨eb, rfl, by rw [l2], heb, hle, by omega⟩, fun g e => ?_⟩
    cases e
    intro e2
    exact hne (Option.some.inj e2).symm
  · refine (PlayM_bad w set cs tk u v vc vt hv hc ht h0).mono ?_
    rintro r W ⟨rfl, hb⟩
    exact ⟨_, _, _, _, [], [], 0, rfl, .inl ⟨h0, rfl, rfl, rfl, rfl, rfl⟩, res_nil hb⟩

/-- What a round holds. -/
structure RND (wr W : World) (D : Nat) (rs es : List Int) (TT : Int) (v1 v2 : Value) (p1 p2 : Option Nat) : Prop where
  bel : Below wr.heap.size wr W
  d1 : W.heap[D]? = some (.cells [v1, v2, .int .i64 TT].toArray 43 (0, 0))
  r1 : RowOwn wr.heap.size W rs v1 p1
  r2 : RowOwn wr.heap.size W es v2 p2
  ne : ∀ g, p1 = some g → p2 ≠ some g
  nd : p1 ≠ some D ∧ p2 ≠ some D
  lo : (∀ g, p1 = some g → wr.heap.size ≤ g) ∧ (∀ g, p2 = some g → wr.heap.size ≤ g)

theorem RND.grow {wr W W' : World} {D : Nat} {rs es : List Int} {TT : Int} {v1 v2 : Value} {p1 p2 : Option Nat} (h : RND wr W D rs es TT v1 v2 p1 p2) (hb : Below W.heap.size W W') : RND wr W' D rs es TT v1 v2 p1 p2 :=
  ⟨below_seq h.bel hb, (hb.block _ (lt_heapM h.d1)).trans h.d1, h.r1.keep (grown_of_below hb) (fun _ _ e => by cases e), h.r2.keep (grown_of_below hb) (fun _ _ e => by cases e), h.ne, h.nd, h.lo⟩

/-- What it holds behind the first Spoil. -/
structure RN2 (wr W : World) (D : Nat) (es : List Int) (TT : Int) (v1 v2 : Value) (p2 : Option Nat) : Prop where
  bel : Below wr.heap.size wr W
  d1 : W.heap[D]? = some (.cells [v1, v2, .int .i64 TT].toArray 43 (0, 0))
  r2 : RowOwn wr.heap.size W es v2 p2
  lo : ∀ g, p2 = some g → wr.heap.size ≤ g

theorem grownBy_below {W W' : World} {p : Option Nat} {B : Nat} (hg : W.grownBy W' p) (hB : B ≤ W.heap.size) (hp : ∀ g, p = some g → B ≤ g) : Below B W W' :=
  ⟨hg.os, hg.tape, hg.output, hg.size, fun i hi => hg.block i (by omega) (fun e => by have := hp i e.symm; omega)⟩

theorem RND.spoil {wr W W' : World} {D : Nat} {rs es : List Int} {TT : Int} {v1 v2 : Value} {p1 p2 : Option Nat} (h : RND wr W D rs es TT v1 v2 p1 p2) (hg : W.grownBy W' p1) : RN2 wr W' D es TT v1 v2 p2 :=
  ⟨h.bel.trans (grownBy_below hg h.bel.size h.lo.1), (hg.block _ (lt_heapM h.d1) (fun e => h.nd.1 e.symm)).trans h.d1, h.r2.keep hg (fun g e e2 => h.ne g e2 e), h.lo.2⟩
theorem RN2.spoil {wr W W' : World} {D : Nat} {es : List Int} {TT : Int} {v1 v2 : Value} {p2 : Option Nat} (h : RN2 wr W D es TT v1 v2 p2) (hg : W.grownBy W' p2) : Below wr.heap.size wr W' :=
  h.bel.trans (grownBy_below hg h.bel.size h.lo)
theorem RND.start {wr W W' : World} {rs es : List Int} {TT : Int} {v1 v2 : Value} (h : Res wr W rs es v1 v2) (hb : Below W.heap.size W W') (hd : W'.heap[W.heap.size]? = some (.cells [v1, v2, .int .i64 TT].toArray 43 (0, 0))) : ∃ p1 p2, RND wr W' W.heap.size rs es TT v1 v2 p1 p2 := by
  obtain ⟨hbel, -, -, p1, p2, h1, h2, hne⟩ := h
  have key : ∀ (xs : List Int) v p, RowOwn wr.heap.size W xs v p → p ≠ some W.heap.size ∧ ∀ g, p = some g → wr.heap.size ≤ g := fun xs v p hp => by
    rcases hp with ⟨rfl, -⟩ | ⟨g, rfl, -, hg, hB, -⟩
    · exact ⟨by simp, fun g e => by cases e⟩
    · refine ⟨fun e => ?_, fun q e => by cases e; exact hB⟩
      have := lt_heapM hg
      have e2 : g = W.heap.size := Option.some.inj e
      omega
  exact ⟨p1, p2, below_seq hbel hb, hd, h1.keep (grown_of_below hb) (fun _ _ e => by cases e), h2.keep (grown_of_below hb) (fun _ _ e => by cases e), hne, ⟨(key _ _ _ h1).1, (key _ _ _ h2).1⟩, (key _ _ _ h1).2, (key _ _ _ h2).2⟩
end Go.Proofs.YtccoobcggbbciaiGreatDoor

namespace Go.Proofs.YtccoobcggbbciaiGreatDoor
open Go.ChangeShapes Go.WideShapes Go.ChangeAt Go.RowKit

/-- The document's play, whatever it is given. -/
theorem PlayCrit_res (w : World) (set : List Cr) (cs : List Co) (tk : List Int) (u : Int) (v vc vt : Value) (hv : RowSl Cr.vals w set v) (hc : RowSl Co.vals w cs vc) (ht : RowSl nuV w tk vt) :
    Calls Tryz.prog 8 #[v, vc, vt, .int .i64 u] w fun r W => ∃ v1 v2 z1 z2 rs es TT, r = .returned (.tuple #[v1, v2, .int .i64 TT, .agg #[.int .i64 z1, .int .i64 z2]]) ∧ MpRes set cs tk u z1 z2 rs es TT ∧ rs.length ≤ 1000000 ∧ es.length ≤ 1000000 ∧ RowSl nuV W rs v1 ∧ RowSl nuV W es v2 ∧ Below w.heap.size w W := by
  by_cases h0 : (chkM set cs tk u).1 = 0
  · obtain ⟨-, hl, -, hu, -, -⟩ := chkM_ok h0
    have e : u = (u.toNat : Int) := by omega
    have hg := PlayCrit_good w set cs tk u.toNat v vc vt hv hc ht (by rw [← e]; exact h0)
    rw [← e] at hg
    refine hg.mono ?_
    rintro r W ⟨s, TT, v1, v2, rfl, hp, h1, h2, hb⟩
    have hok := playsT_ok (chkM_jobs h0) _ _ _ hp
    have l1 := hok.runs
    have l2 := hok.ends
    rw [jsF_len] at l2
    exact ⟨v1, v2, 0, 0, s.runs, s.ends, TT, rfl, .inr ⟨h0, rfl, rfl, s, hp, rfl, rfl⟩, by omega, by omega, h1, h2, hb⟩
  · refine (PlayCrit_bad w set cs tk u v vc vt hv hc ht h0).mono ?_
    rintro r W ⟨rfl, hb⟩
    exact ⟨_, _, _, _, [], [], 0, rfl, .inl ⟨h0, rfl, rfl, rfl, rfl, rfl⟩, by simp, by simp, RowSl.nil _ _, RowSl.nil _ _, hb⟩
end Go.Proofs.YtccoobcggbbciaiGreatDoor
