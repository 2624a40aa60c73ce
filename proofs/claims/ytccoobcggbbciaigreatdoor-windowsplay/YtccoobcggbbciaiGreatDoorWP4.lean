import Derived.Test.YtccoobcggbbciaiGreatDoorSWB
import Derived.Test.YtccoobcggbbciaiGreatDoorSQF
import Derived.Test.YtccoobcggbbciaiGreatDoorSQD
import Derived.Test.YtccoobcggbbciaiGreatDoorXS
import Derived.Test.YtccoobcggbbciaiGreatDoorJL
import Derived.Test.YtccoobcggbbciaiGreatDoorSLA
import Derived.Test.YtccoobcggbbciaiGreatDoorVJ
import Derived.Test.YtccoobcggbbciaiGreatDoorSQA
namespace Go.Proofs.YtccoobcggbbciaiGreatDoor.S8
open Go.ChangeShapes Go.WideShapes Go.ChangeAt Go.RowKit

theorem flat_nu (xs : List Int) : xs.flatMap nuV = xs.map (Value.int .i64) := by
  induction xs with
  | nil => rfl
  | cons x r ih => rw [List.flatMap_cons, ih]; rfl

theorem row_block {W : World} {g : Nat} {xs : List Int} (h : W.heap[g]? = some (.cells (xs.map (Value.int .i64)).toArray 3 (0, 0))) : RowSl nuV W xs (.slice (some ⟨g, 0, none⟩) xs.length xs.length) :=
  ⟨_, _, rfl, (fun e => by cases e), Nat.le_refl _, .inr ⟨g, 0, rfl, fun q u hq => by
    rw [flat_nu] at hq
    rw [Nat.zero_add]
    exact (cells_of h).1 q u hq⟩⟩

/-- One's own list of numbers, or none. -/
def RowOwn (B : Nat) (W : World) (xs : List Int) (v : Value) (og : Option Nat) : Prop :=
  (og = none ∧ xs = [] ∧ v = .slice none 0 0) ∨ (∃ g, og = some g ∧ v = .slice (some ⟨g, 0, none⟩) xs.length xs.length ∧ W.heap[g]? = some (.cells (xs.map (Value.int .i64)).toArray 3 (0, 0)) ∧ B ≤ g ∧ xs.length ≤ 1000000)

theorem RowOwn.row {B : Nat} {W : World} {xs : List Int} {v : Value} {og : Option Nat} (h : RowOwn B W xs v og) : RowSl nuV W xs v := by
  rcases h with ⟨-, rfl, rfl⟩ | ⟨g, -, rfl, h, -⟩
  · exact RowSl.nil _ _
  · exact row_block h

theorem RowOwn.keep {B : Nat} {W W' : World} {xs : List Int} {v : Value} {og row : Option Nat} (h : RowOwn B W xs v og) (hg : W.grownBy W' row) (hn : ∀ g, og = some g → row ≠ some g) : RowOwn B W' xs v og := by
  rcases h with h | ⟨g, e, e2, h, hB, hl⟩
  · exact .inl h
  · exact .inr ⟨g, e, e2, (hg.block g (lt_of_heap h) (fun q => hn g e q.symm)).trans h, hB, hl⟩

theorem heap_setCells {g q : Nat} (hq : q ≠ g) : ∀ (l : List Value) (o : Nat) (w : World), (w.setCells g o l).heap[q]? = w.heap[q]?
  | [], _, _ => rfl
  | v :: r, o, w => by
    have h1 := heap_setCells hq r (o + 1) (w.setCell ⟨g, o, none⟩ v)
    have h2 : (w.setCell ⟨g, o, none⟩ v).heap[q]? = w.heap[q]? := Below.heap_setCell _ _ _ _ hq
    exact h1.trans h2

theorem grown_setCells {g : Nat} (l : List Value) (w : World) : w.grownBy (w.setCells g 0 l) (some g) := by
  have hb := below_setCells (N := 0) (b := g) (Nat.zero_le _) l 0 w
  exact ⟨hb.os, hb.tape, hb.output, hb.size, fun q _ hne => heap_setCells (fun e => hne (by rw [e])) l 0 w⟩

set_option maxRecDepth 20000 in
set_option maxHeartbeats 4000000 in
/-- Spoil changes one block alone. -/
theorem Spoil_row (w : World) (B : Nat) (xs : List Int) (v : Value) (og : Option Nat) (h : RowOwn B w xs v og) :
    Calls Tryz.prog 14 #[v] w fun r w' => r = .returned (.tuple #[]) ∧ w.grownBy w' og := by
  obtain ⟨i0, hi0, hz0, hz1, hz2⟩ := info_parts info3
  rcases h with ⟨rfl, rfl, rfl⟩ | ⟨g, rfl, rfl, hg, hB, hm⟩
  · have hcl : ∀ ty, (Builtin.clear_ #[24] ty #[.slice none 0 0]).run Tryz.prog w = .ok (.tuple #[]) w := fun ty => by simp [Builtin.clear_, run_underlying Tryz.underlying24]
    go_enter Tryz.func14, Tryz.ntmps14
    go_wp2
    go_end0
    exact ⟨rfl, grown_of_below (Below.refl _ _)⟩
  · have hz : ∀ w, (zeroValue 3).run Tryz.prog w = .ok (.int .i64 0) w := fun w => by simp [zeroValue, typeInfo, hi0, hz0]
    have hcl' : ∃ w1, (∀ ty, (Builtin.clear_ #[24] ty #[.slice (some ⟨g, 0, none⟩) xs.length xs.length]).run Tryz.prog w = .ok (.tuple #[]) w1) ∧ w.grownBy w1 (some g) := by
      by_cases hc : xs.length = 0
      · rw [hc]
        exact ⟨w, fun ty => by simp [Builtin.clear_, run_underlying Tryz.underlying24], ⟨rfl, rfl, rfl, Nat.le_refl _, fun _ _ _ => rfl⟩⟩
      · obtain ⟨l, hl⟩ := clear_one w 24 3 24 (.int .i64 0) Tryz.underlying24 hz rfl g xs.length xs.length (by omega) (fun j hj => by unfold World.cell?; rw [hg]; simp; omega) (fun j hj => by unfold World.frozen?; rw [hg]; simp)
        exact ⟨_, fun ty => hl, grown_setCells l w⟩
    obtain ⟨w1, hcl, hb1⟩ := hcl'
    have HB : Hid (w.grownBy w1 (some g)) := hb1
    generalize xs.length = m at *
    clear hg hz hb1
    go_enter Tryz.func14, Tryz.ntmps14
    go_wp2
    go_end0
    exact ⟨rfl, HB.out⟩

def smallB (a b : Int) : Bool := (decide (a ≤ 300) && decide (b ≤ 3000)) || decide (4000 < a) || decide (20000 < b)
theorem small_any (w : World) (a b : Int) : Calls Tryz.prog 7 #[.int .i64 a, .int .i64 b] w fun r w' => r = .returned (.bool (smallB a b)) ∧ w' = w := by
  unfold smallB
  rcases Bool.eq_false_or_eq_true (decide (a ≤ 300)) with h1 | h1 <;> rcases Bool.eq_false_or_eq_true (decide (b ≤ 3000)) with h2 | h2 <;> rcases Bool.eq_false_or_eq_true (decide (4000 < a)) with h3 | h3 <;> rcases Bool.eq_false_or_eq_true (decide (20000 < b)) with h4 | h4 <;> rw [h1, h2, h3, h4] <;> (go_enter Tryz.func7, Tryz.ntmps7; go_wp2_with fail; go_ret; exact ⟨rfl, rfl⟩)

/-- Same, of what was played. -/
theorem SameP_any (w : World) (rs es : List Int) (v1 v2 v3 v4 : Value) (hl : rs.length ≤ 1000000) (hl2 : es.length ≤ 1000000) (h1 : RowSl nuV w rs v1) (h2 : RowSl nuV w es v2) (h3 : RowSl nuV w rs v3) (h4 : RowSl nuV w es v4) :
    Calls Tryz.prog 26 #[.agg #[v1, v2], .agg #[v3, v4]] w fun r w' => r = .returned (.bool true) ∧ Below w.heap.size w w' := by
  obtain ⟨a1, c1, rfl⟩ := h1.len
  obtain ⟨a2, c2, rfl⟩ := h2.len
  obtain ⟨a3, c3, rfl⟩ := h3.len
  obtain ⟨a4, c4, rfl⟩ := h4.len
  have hb : Below w.heap.size w ((w.alloc (.cells #[.slice a1 rs.length c1, .slice a2 es.length c2] 41)).alloc (.cells #[.slice a3 rs.length c3, .slice a4 es.length c4] 41)) := below_seq (below_new _ _) (below_new _ _)
  have HS := SameN_any _ rs _ _ (by omega) (h1.below hb) (h3.below hb)
  have HB : Hid (Below w.heap.size w ((w.alloc (.cells #[.slice a1 rs.length c1, .slice a2 es.length c2] 41)).alloc (.cells #[.slice a3 rs.length c3, .slice a4 es.length c4] 41)) ∧ RowSl nuV w es (.slice a2 es.length c2) ∧ RowSl nuV w es (.slice a4 es.length c4)) := ⟨hb, h2, h4⟩
  have hx1 : ((w.alloc (.cells #[.slice a1 rs.length c1, .slice a2 es.length c2] 41)).alloc (.cells #[.slice a3 rs.length c3, .slice a4 es.length c4] 41)).heap[w.heap.size]? = some (.cells [.slice a1 rs.length c1, .slice a2 es.length c2].toArray 41 (0, 0)) := (Below.heap_alloc _ _ _ (by simp)).trans (heap_alloc_new _ _)
  have hx2 : ((w.alloc (.cells #[.slice a1 rs.length c1, .slice a2 es.length c2] 41)).alloc (.cells #[.slice a3 rs.length c3, .slice a4 es.length c4] 41)).heap[w.heap.size + 1]? = some (.cells [.slice a3 rs.length c3, .slice a4 es.length c4].toArray 41 (0, 0)) := by
    have := heap_alloc_new (w.alloc (.cells #[.slice a1 rs.length c1, .slice a2 es.length c2] 41)) (.cells #[.slice a3 rs.length c3, .slice a4 es.length c4] 41)
    simpa using this
  clear h1 h2 h3 h4 hb
  go_enter Tryz.func26, Tryz.ntmps26
  go_wp2_with (go_at_call 13; refine HS.mono ?_; rintro r w2 ⟨rfl, hb2⟩; have H2 : Hid (Below w.heap.size w w2) := below_seq HB.out.1 hb2; have hy1 := (hb2.block _ (lt_of_heap hx1)).trans hx1; have hy2 := (hb2.block _ (lt_of_heap hx2)).trans hx2; have q1 := (cells_of hy1).1 1 _ rfl; have q2 := (cells_of hy2).1 1 _ rfl; clear hy1 hy2 hb2 HS)
  go_wp2_with (go_at_call 13; refine (SameN_any _ es _ _ (by omega) (HB.out.2.1.below H2.out) (HB.out.2.2.below H2.out)).mono ?_; rintro r w3 ⟨rfl, hb3⟩; have H3 : Hid (Below w.heap.size w w3) := below_seq H2.out hb3; clear hb3)
  go_ret
  exact ⟨rfl, H3.out⟩

def Res (w W : World) (rs es : List Int) (v1 v2 : Value) : Prop := Below w.heap.size w W ∧ rs.length ≤ 1000000 ∧ es.length ≤ 1000000 ∧ ∃ o1 o2, RowOwn w.heap.size W rs v1 o1 ∧ RowOwn w.heap.size W es v2 o2 ∧ ∀ g, o1 = some g → o2 ≠ some g

theorem res_nil {w W : World} (h : Below w.heap.size w W) : Res w W [] [] (.slice none 0 0) (.slice none 0 0) := ⟨h, by simp, by simp, none, none, .inl ⟨rfl, rfl, rfl⟩, .inl ⟨rfl, rfl, rfl⟩, fun g e => by cases e⟩


theorem Res.slices {w W : World} {rs es : List Int} {v1 v2 : Value} (h : Res w W rs es v1 v2) : ∃ a1 c1 a2 c2, v1 = .slice a1 rs.length c1 ∧ v2 = .slice a2 es.length c2 := by
  obtain ⟨-, -, -, o1, o2, h1, h2, -⟩ := h
  obtain ⟨a1, c1, e1⟩ := h1.row.len
  obtain ⟨a2, c2, e2⟩ := h2.row.len
  exact ⟨a1, c1, a2, c2, e1, e2⟩

theorem Res.rows {w W : World} {rs es : List Int} {v1 v2 : Value} (h : Res w W rs es v1 v2) : RowSl nuV W rs v1 ∧ RowSl nuV W es v2 := by
  obtain ⟨-, -, -, o1, o2, h1, h2, -⟩ := h
  exact ⟨h1.row, h2.row⟩

theorem playsO_unique {l : List Jb} {op : Nat → Bool} : ∀ (t : Nat) (s s' : St), PlaysO l op t s → PlaysO l op t s' → s = s'
  | 0, s, s', h, h' => by rw [show s = _ from h, show s' = _ from h']
  | t + 1, s, s', ⟨s0, b, h1, h2, h3⟩, ⟨s1, b', g1, g2, g3⟩ => by
    have e := playsO_unique t s0 s1 h1 g1
    subst e
    have e2 : b = b' := by
      rcases h2 with ⟨a1, rfl⟩ | ⟨a1, a2⟩ <;> rcases g2 with ⟨c1, rfl⟩ | ⟨c1, c2⟩
      · rfl
      · rw [a1] at c1; cases c1
      · rw [a1] at c1; cases c1
      · exact isBest_unique a2 c2
    rw [h3, g3, e2]

theorem playsP_O {l : List Jb} {op : Nat → Bool} : ∀ (t : Nat) (s : St), PlaysP l op 1 true t s → PlaysO l op t s
  | 0, _, h => h
  | t + 1, s, ⟨s0, b, h1, h2, h3⟩ => by
    refine ⟨s0, b, playsP_O t s0 h1, ?_, h3⟩
    rcases h2 with h2 | ⟨a, ⟨e, -⟩ | ⟨-, h2⟩⟩
    · exact .inl h2
    · cases e
    · exact .inr ⟨a, h2⟩

/-- What must come out. -/
def HoRes (l : List Jb) (n : Int) (wl : List Wi) (u : Int) (z1 z2 : Int) (rs es : List Int) : Prop :=
  ((frmF n wl).1 ≠ 0 ∧ z1 = (frmF n wl).1 ∧ z2 = (frmF n wl).2 ∧ rs = [] ∧ es = []) ∨ ((frmF n wl).1 = 0 ∧
   (((chkJ l).1 ≠ 0 ∧ z1 = (chkJ l).1 ∧ z2 = (chkJ l).2 ∧ rs = [] ∧ es = []) ∨ ((chkJ l).1 = 0 ∧
    ((¬ (0 ≤ u ∧ u ≤ 20000) ∧ z1 = 3 ∧ z2 = 0 ∧ rs = [] ∧ es = []) ∨ ((0 ≤ u ∧ u ≤ 20000) ∧ z1 = 0 ∧ z2 = 0 ∧ ∃ s, PlaysO l (opW n wl) u.toNat s ∧ rs = s.runs ∧ es = s.ends)))))

theorem hoRes_unique {l : List Jb} {n : Int} {wl : List Wi} {u z1 z2 y1 y2 : Int} {rs es rs' es' : List Int} (h : HoRes l n wl u z1 z2 rs es) (h' : HoRes l n wl u y1 y2 rs' es') : z1 = y1 ∧ z2 = y2 ∧ rs = rs' ∧ es = es' := by
  rcases h with ⟨h0, rfl, rfl, rfl, rfl⟩ | ⟨h0, ⟨h1, rfl, rfl, rfl, rfl⟩ | ⟨h1, ⟨h2, rfl, rfl, rfl, rfl⟩ | ⟨h2, rfl, rfl, s, hs, rfl, rfl⟩⟩⟩ <;>
  rcases h' with ⟨g0, rfl, rfl, rfl, rfl⟩ | ⟨g0, ⟨g1, rfl, rfl, rfl, rfl⟩ | ⟨g1, ⟨g2, rfl, rfl, rfl, rfl⟩ | ⟨g2, rfl, rfl, s', hs', rfl, rfl⟩⟩⟩
  all_goals first
    | exact ⟨rfl, rfl, rfl, rfl⟩
    | exact absurd g0 h0
    | exact absurd h0 g0
    | exact absurd g1 h1
    | exact absurd h1 g1
    | exact absurd g2 h2
    | exact absurd h2 g2
    | (rw [playsO_unique _ _ _ hs hs']; exact ⟨rfl, rfl, rfl, rfl⟩)

theorem res_outO {w W : World} {l : List Jb} {op : Nat → Bool} {n : Nat} {v1 v2 : Value} (hok : ∀ x ∈ l, okJ x) (hl : l.length ≤ 4000) (hn : n ≤ 20000) (h : OutO w W l op n v1 v2) : ∃ s, PlaysO l op n s ∧ Res w W s.runs s.ends v1 v2 := by
  obtain ⟨⟨s, rb, eb, hp, rfl, rfl, h2, b2, h1, b1, hne⟩, hbel⟩ := h
  have hk := playsO_ok hok n s hp
  refine ⟨s, hp, hbel, by rw [hk.runs]; omega, by rw [hk.ends]; omega, some rb, some eb, .inr ⟨rb, rfl, by rw [hk.runs], h1, b1, by rw [hk.runs]; omega⟩, .inr ⟨eb, rfl, by rw [hk.ends], h2, b2, by rw [hk.ends]; omega⟩, fun g e e2 => ?_⟩
  cases e
  exact hne (Option.some.inj e2).symm

set_option maxRecDepth 20000 in
set_option maxHeartbeats 4000000 in
theorem Hosted_badJ (w : World) (l : List Jb) (wl : List Wi) (n : Int) (u : Int) (v vw : Value) (hv : RowSl Jb.vals w l v) (hvw : RowSl Wi.vals w wl vw) (h0 : (frmF n wl).1 = 0) (hj : (chkJ l).1 ≠ 0) :
    Calls Tryz.prog 25 #[v, .int .i64 n, vw, .int .i64 u] w fun r W => r = .returned (.tuple #[.agg #[.slice none 0 0, .slice none 0 0], .agg #[.int .i64 (chkJ l).1, .int .i64 (chkJ l).2]]) ∧ Below w.heap.size w W := by
  obtain ⟨ad, c, rfl⟩ := hv.len
  obtain ⟨ad1, c1, rfl⟩ := hvw.len
  have HV : Hid (RowSl Jb.vals w l (.slice ad l.length c) ∧ RowSl Wi.vals w wl (.slice ad1 wl.length c1) ∧ (frmF n wl).1 = 0) := ⟨hv, hvw, h0⟩
  have HC := Frame_any ((w.alloc (.cells #[.slice none 0 0, .slice none 0 0] 41)).alloc (.cells #[.int .i64 0, .int .i64 0] 30)) n wl _ (hvw.below (TB.start w).bel)
  rw [h0] at HC
  generalize (frmF n wl).2 = z2 at *
  clear hv hvw h0
  obtain ⟨z3, hz3⟩ : ∃ z3, (chkJ l).1 = z3 := ⟨_, rfl⟩
  obtain ⟨z4, hz4⟩ : ∃ z4, (chkJ l).2 = z4 := ⟨_, rfl⟩
  have HJ : Hid ((chkJ l).1 = z3 ∧ (chkJ l).2 = z4) := ⟨hz3, hz4⟩
  have hz : (z3 != 0) = true := by rw [← hz3]; simpa using hj
  rw [hz3, hz4]
  clear hz3 hz4 hj
  go_enter Tryz.func25, Tryz.ntmps25
  go_upto_region 2 with (go_at_call 42; refine HC.mono ?_; rintro r w1 ⟨rfl, hb1⟩; have H1 : Hid (TB w (w1.alloc (.cells #[.int .i64 0, .int .i64 z2] 30))) := ((TB.start w).grow hb1).grow (below_new _ _); clear hb1 HC)
  obtain ⟨fs, -, fl⟩ := cells_of (l := [_, _]) (heap_alloc_new w1 (.cells #[.int .i64 0, .int .i64 z2] 30))
  have g0 := fs 0 _ rfl
  clear fs
  generalize w1.alloc (.cells #[.int .i64 0, .int .i64 z2] 30) = w2 at *
  have HC2 := Check_any w2 l _ (HV.out.1.below H1.out.bel)
  rw [HJ.out.1, HJ.out.2] at HC2
  go_upto_region 6 with (go_at_call 54; refine HC2.mono ?_; rintro r w3 ⟨rfl, hb3⟩; have H3 : Hid (TB w (w3.alloc (.cells #[.int .i64 z3, .int .i64 z4] 30))) := (H1.out.grow hb3).grow (below_new _ _); have hl1 : w.heap.size < w3.heap.size := lt_of_heap (H1.out.grow hb3).r1; have hl2 : w.heap.size + 1 < w3.heap.size := lt_of_heap (H1.out.grow hb3).r2; clear hb3 HC2)
  obtain ⟨fs, -, fl⟩ := cells_of (l := [_, _]) (heap_alloc_new w3 (.cells #[.int .i64 z3, .int .i64 z4] 30))
  have g5 := fs 0 _ rfl
  have g6 := fs 1 _ rfl
  clear fs
  generalize w3.alloc (.cells #[.int .i64 z3, .int .i64 z4] 30) = w4 at *
  obtain ⟨qs, qf, ql⟩ := cells_of (l := [_, _]) H3.out.r1
  have q0 := qs 0 _ rfl
  have q1 := qs 1 _ rfl
  have qf0 := qf 0
  have qf1 := qf 1
  obtain ⟨rs, rf, rl⟩ := cells_of (l := [_, _]) H3.out.r2
  have r0 := rs 0 _ rfl
  have r1 := rs 1 _ rfl
  have rf0 := rf 0
  have rf1 := rf 1
  clear qs qf rs rf
  go_region
  all_goals go_wp2_with fail
  all_goals
    have hx := H3.out.put (.slice none 0 0) (.slice none 0 0) (.int .i64 z3) (.int .i64 z4)
    refine bodyPost_ret (Hosted_ends (g1 := w.heap.size) (g2 := w.heap.size + 1) (a := .slice none 0 0) (b := .slice none 0 0) (c := .int .i64 z3) (k := .int .i64 z4) hx.1 hx.2.1 rfl rfl) rfl ?_
    exact ⟨rfl, hx.2.2.1.drew⟩


set_option maxRecDepth 20000 in
set_option maxHeartbeats 4000000 in
theorem Hosted_badU (w : World) (l : List Jb) (wl : List Wi) (n : Int) (u : Int) (v vw : Value) (hv : RowSl Jb.vals w l v) (hvw : RowSl Wi.vals w wl vw) (h0 : (frmF n wl).1 = 0) (hj : (chkJ l).1 = 0) (hu : ¬ (0 ≤ u ∧ u ≤ 20000)) :
    Calls Tryz.prog 25 #[v, .int .i64 n, vw, .int .i64 u] w fun r W => r = .returned (.tuple #[.agg #[.slice none 0 0, .slice none 0 0], .agg #[.int .i64 3, .int .i64 0]]) ∧ Below w.heap.size w W := by
  obtain ⟨ad, c, rfl⟩ := hv.len
  obtain ⟨ad1, c1, rfl⟩ := hvw.len
  have HV : Hid (RowSl Jb.vals w l (.slice ad l.length c) ∧ RowSl Wi.vals w wl (.slice ad1 wl.length c1) ∧ (frmF n wl).1 = 0 ∧ (chkJ l).1 = 0) := ⟨hv, hvw, h0, hj⟩
  have HC := Frame_any ((w.alloc (.cells #[.slice none 0 0, .slice none 0 0] 41)).alloc (.cells #[.int .i64 0, .int .i64 0] 30)) n wl _ (hvw.below (TB.start w).bel)
  rw [h0] at HC
  generalize (frmF n wl).2 = z2 at *
  have hwi : wthin u 0 20000 = false := by simp [wthin]; omega
  clear hv hvw h0 hj
  obtain ⟨z4, hz4⟩ : ∃ z4, (chkJ l).2 = z4 := ⟨_, rfl⟩
  have HJ : Hid ((chkJ l).1 = 0 ∧ (chkJ l).2 = z4) := ⟨HV.out.2.2.2, hz4⟩
  clear hz4
  go_enter Tryz.func25, Tryz.ntmps25
  go_upto_region 2 with (go_at_call 42; refine HC.mono ?_; rintro r w1 ⟨rfl, hb1⟩; have H1 : Hid (TB w (w1.alloc (.cells #[.int .i64 0, .int .i64 z2] 30))) := ((TB.start w).grow hb1).grow (below_new _ _); clear hb1 HC)
  obtain ⟨fs, -, fl⟩ := cells_of (l := [_, _]) (heap_alloc_new w1 (.cells #[.int .i64 0, .int .i64 z2] 30))
  have g0 := fs 0 _ rfl
  clear fs
  generalize w1.alloc (.cells #[.int .i64 0, .int .i64 z2] 30) = w2 at *
  have HC2 := Check_any w2 l _ (HV.out.1.below H1.out.bel)
  rw [HJ.out.1, HJ.out.2] at HC2
  go_upto_region 5 with (go_at_call 54; refine HC2.mono ?_; rintro r w3 ⟨rfl, hb3⟩; have H3 : Hid (TB w (w3.alloc (.cells #[.int .i64 0, .int .i64 z4] 30))) := (H1.out.grow hb3).grow (below_new _ _); clear hb3 HC2)
  obtain ⟨fs, -, fl2⟩ := cells_of (l := [_, _]) (heap_alloc_new w3 (.cells #[.int .i64 0, .int .i64 z4] 30))
  have g1 := fs 0 _ rfl
  clear fs H1 HJ g0 fl
  generalize w3.alloc (.cells #[.int .i64 0, .int .i64 z4] 30) = w4 at *
  obtain ⟨qs, qf, ql⟩ := cells_of (l := [_, _]) H3.out.r1
  have q0 := qs 0 _ rfl
  have q1 := qs 1 _ rfl
  have qf0 := qf 0
  have qf1 := qf 1
  obtain ⟨rs, rf, rl⟩ := cells_of (l := [_, _]) H3.out.r2
  have r0 := rs 0 _ rfl
  have r1 := rs 1 _ rfl
  have rf0 := rf 0
  have rf1 := rf 1
  clear qs qf rs rf
  go_wp2_with (go_at_call 55; refine (wthin_any _ _ _ _).mono ?_; rintro r w5 ⟨rfl, hw5⟩; have hw6 := hw5.symm; subst hw6; clear hw5; rw [hwi])
  have hx := H3.out.put (.slice none 0 0) (.slice none 0 0) (.int .i64 3) (.int .i64 0)
  refine bodyPost_ret (Hosted_ends (g1 := w.heap.size) (g2 := w.heap.size + 1) (a := .slice none 0 0) (b := .slice none 0 0) (c := .int .i64 3) (k := .int .i64 0) hx.1 hx.2.1 rfl rfl) rfl ?_
  exact ⟨rfl, hx.2.2.1⟩

theorem Hosted_res (w : World) (l : List Jb) (wl : List Wi) (n u : Int) (v vw : Value) (hv : RowSl Jb.vals w l v) (hvw : RowSl Wi.vals w wl vw) :
    Calls Tryz.prog 25 #[v, .int .i64 n, vw, .int .i64 u] w fun r W => ∃ v1 v2 z1 z2 rs es, r = .returned (.tuple #[.agg #[v1, v2], .agg #[.int .i64 z1, .int .i64 z2]]) ∧ HoRes l n wl u z1 z2 rs es ∧ Res w W rs es v1 v2 := by
  by_cases h0 : (frmF n wl).1 = 0
  · by_cases h1 : (chkJ l).1 = 0
    · by_cases h2 : 0 ≤ u ∧ u ≤ 20000
      · obtain ⟨hcl, hcok, -⟩ := chkJ_ok h1
        obtain ⟨m, rfl⟩ : ∃ m : Nat, u = (m : Int) := ⟨u.toNat, by omega⟩
        refine (Hosted_good w l wl n m v vw hv hvw h0 h1 (by omega)).mono ?_
        rintro r W ⟨v1, v2, rfl, ho⟩
        obtain ⟨s, hp, hr⟩ := res_outO hcok hcl (by omega) ho
        exact ⟨v1, v2, 0, 0, s.runs, s.ends, rfl, .inr ⟨h0, .inr ⟨h1, .inr ⟨h2, rfl, rfl, s, hp, rfl, rfl⟩⟩⟩, hr⟩
      · refine (Hosted_badU w l wl n u v vw hv hvw h0 h1 h2).mono ?_
        rintro r W ⟨rfl, hb⟩
        exact ⟨_, _, _, _, [], [], rfl, .inr ⟨h0, .inr ⟨h1, .inl ⟨h2, rfl, rfl, rfl, rfl⟩⟩⟩, res_nil hb⟩
    · refine (Hosted_badJ w l wl n u v vw hv hvw h0 h1).mono ?_
      rintro r W ⟨rfl, hb⟩
      exact ⟨_, _, _, _, [], [], rfl, .inr ⟨h0, .inl ⟨h1, rfl, rfl, rfl, rfl⟩⟩, res_nil hb⟩
  · refine (Hosted_bad w l wl n u v vw hv hvw h0).mono ?_
    rintro r W ⟨rfl, hb⟩
    exact ⟨_, _, _, _, [], [], rfl, .inl ⟨h0, rfl, rfl, rfl, rfl⟩, res_nil hb⟩
end Go.Proofs.YtccoobcggbbciaiGreatDoor.S8
namespace Go.Proofs.YtccoobcggbbciaiGreatDoor.S8
open Go.ChangeShapes Go.WideShapes Go.ChangeAt Go.RowKit

/-- The closure: is a core there? -/
theorem open_doc (W : World) (n : Int) (wl : List Wi) (ad1 : Option Addr) (c1 g1 g2 t : Nat) (h0 : (frmF n wl).1 = 0) (hv : RowSl Wi.vals W wl (.slice ad1 wl.length c1)) (hn : W.cell? ⟨g1, 0, none⟩ = some (.int .i64 n)) (hl : W.cell? ⟨g2, 0, none⟩ = some (.slice ad1 wl.length c1)) :
    Calls Tryz.prog 51 #[.int .i64 (t : Int), .pointer (some ⟨g1, 0, none⟩), .pointer (some ⟨g2, 0, none⟩)] W fun r w' => r = .returned (.bool (opW n wl t)) ∧ Below W.heap.size W w' := by
  have HT := There_any W n (t : Int) wl ad1 c1 (frmF_ok h0).1 (frmF_ok h0).2.1 (frmF_ok h0).2.2 (by omega) hv
  have e : opW n wl t = thr n wl (t : Int) := rfl
  rw [e]
  generalize thr n wl (t : Int) = bb at *
  clear hv h0 e
  go_enter Tryz.func51, Tryz.ntmps51
  go_wp2_with (go_at_call 52; refine HT.mono ?_; rintro r w1 ⟨rfl, hb1⟩; have H1 : Hid (Below W.heap.size W w1) := hb1; clear hb1 HT)
  go_ret
  exact ⟨rfl, H1.out⟩

theorem HostedOf_ends {w : World} {g1 g2 : Nat} {a b c k : Value} {ac : Act} (h : w.heap[g1]? = some (.cells #[a, b] 41 (0, 0))) (h' : w.heap[g2]? = some (.cells #[c, k] 30 (0, 0))) (h2 : ac.tmps[8]?.getD undef = .pointer (some ⟨g1, 0, none⟩)) (h3 : ac.tmps[9]?.getD undef = .pointer (some ⟨g2, 0, none⟩)) :
    (results Tryz.f24 ac.tmps).run Tryz.prog w = .ok (.tuple #[.agg #[a, b], .agg #[c, k]]) w := by
  obtain ⟨c1, f1, l1⟩ := cells_of (l := [_, _]) h
  have c10 := c1 0 _ rfl
  have c11 := c1 1 _ rfl
  obtain ⟨d1, f2, l2⟩ := cells_of (l := [_, _]) h'
  have d10 := d1 0 _ rfl
  have d11 := d1 1 _ rfl
  simp [results, Tryz.results24, go_sem, h2, h3, c10, c11, d10, d11]

set_option maxRecDepth 20000 in
set_option maxHeartbeats 8000000 in
theorem HostedOf_f (w : World) (l : List Jb) (wl : List Wi) (n u : Int) (v vw : Value) (hv : RowSl Jb.vals w l v) (hvw : RowSl Wi.vals w wl vw) (h0 : (frmF n wl).1 ≠ 0) :
    Calls Tryz.prog 24 #[v, .int .i64 n, vw, .int .i64 u] w fun r W => r = .returned (.tuple #[.agg #[.slice none 0 0, .slice none 0 0], .agg #[.int .i64 (frmF n wl).1, .int .i64 (frmF n wl).2]]) ∧ Below w.heap.size w W := by
  obtain ⟨ad, c, rfl⟩ := hv.len
  obtain ⟨ad1, c1, rfl⟩ := hvw.len
  have hs1 : (w.alloc (.cells #[.int .i64 n] 3)).heap.size = w.heap.size + 1 := by simp
  have hs2 : ((w.alloc (.cells #[.int .i64 n] 3)).alloc (.cells #[.slice ad1 wl.length c1] 53)).heap.size = w.heap.size + 1 + 1 := by simp
  have HBx : Hid (Below w.heap.size w ((w.alloc (.cells #[.int .i64 n] 3)).alloc (.cells #[.slice ad1 wl.length c1] 53))) := below_seq (below_new _ _) (below_new _ _)
  have hbn : ((w.alloc (.cells #[.int .i64 n] 3)).alloc (.cells #[.slice ad1 wl.length c1] 53)).cell? ⟨w.heap.size, 0, none⟩ = some (.int .i64 n) := below_cell (below_new _ _) ((cells_of (l := [_]) (heap_alloc_new w (.cells #[.int .i64 n] 3))).1 0 _ rfl)
  have hbl : ((w.alloc (.cells #[.int .i64 n] 3)).alloc (.cells #[.slice ad1 wl.length c1] 53)).cell? ⟨w.heap.size + 1, 0, none⟩ = some (.slice ad1 wl.length c1) := by
    have := (cells_of (l := [_]) (heap_alloc_new (w.alloc (.cells #[.int .i64 n] 3)) (.cells #[.slice ad1 wl.length c1] 53))).1 0 _ rfl
    rw [hs1] at this
    exact this
  have HBox : Hid (((w.alloc (.cells #[.int .i64 n] 3)).alloc (.cells #[.slice ad1 wl.length c1] 53)).cell? ⟨w.heap.size, 0, none⟩ = some (.int .i64 n) ∧ ((w.alloc (.cells #[.int .i64 n] 3)).alloc (.cells #[.slice ad1 wl.length c1] 53)).cell? ⟨w.heap.size + 1, 0, none⟩ = some (.slice ad1 wl.length c1)) := ⟨hbn, hbl⟩
  have HC := CheckFrame_any ((((w.alloc (.cells #[.int .i64 n] 3)).alloc (.cells #[.slice ad1 wl.length c1] 53)).alloc (.cells #[.slice none 0 0, .slice none 0 0] 41)).alloc (.cells #[.int .i64 0, .int .i64 0] 30)) n wl _ (hvw.below (below_seq HBx.out (TB.start ((w.alloc (.cells #[.int .i64 n] 3)).alloc (.cells #[.slice ad1 wl.length c1] 53))).bel))
  clear hbn hbl
  clear hv hvw
  generalize (frmF n wl).1 = z1 at *
  generalize (frmF n wl).2 = z2 at *
  have hz : (z1 != 0) = true := by simpa using h0
  clear h0
  go_enter Tryz.func24, Tryz.ntmps24
  go_upto_region 3 with (go_at_call 46; refine HC.mono ?_; rintro r w1 ⟨rfl, hb1⟩; have H1 : Hid (TB ((w.alloc (.cells #[.int .i64 n] 3)).alloc (.cells #[.slice ad1 wl.length c1] 53)) (w1.alloc (.cells #[.int .i64 z1, .int .i64 z2] 30))) := ((TB.start ((w.alloc (.cells #[.int .i64 n] 3)).alloc (.cells #[.slice ad1 wl.length c1] 53))).grow hb1).grow (below_new _ _); have hl1 : ((w.alloc (.cells #[.int .i64 n] 3)).alloc (.cells #[.slice ad1 wl.length c1] 53)).heap.size < w1.heap.size := lt_of_heap ((TB.start ((w.alloc (.cells #[.int .i64 n] 3)).alloc (.cells #[.slice ad1 wl.length c1] 53))).grow hb1).r1; have hl2 : ((w.alloc (.cells #[.int .i64 n] 3)).alloc (.cells #[.slice ad1 wl.length c1] 53)).heap.size + 1 < w1.heap.size := lt_of_heap ((TB.start ((w.alloc (.cells #[.int .i64 n] 3)).alloc (.cells #[.slice ad1 wl.length c1] 53))).grow hb1).r2; clear hb1 HC)
  rw [hs2] at hl1 hl2
  obtain ⟨fs, -, fl⟩ := cells_of (l := [_, _]) (heap_alloc_new w1 (.cells #[.int .i64 z1, .int .i64 z2] 30))
  have g0 := fs 0 _ rfl
  have g1 := fs 1 _ rfl
  clear fs
  generalize w1.alloc (.cells #[.int .i64 z1, .int .i64 z2] 30) = w2 at *
  obtain ⟨qs, qf, ql⟩ := cells_of (l := [_, _]) H1.out.r1
  have q0 := qs 0 _ rfl
  have q1 := qs 1 _ rfl
  have qf0 := qf 0
  have qf1 := qf 1
  obtain ⟨rs, rf, rl⟩ := cells_of (l := [_, _]) H1.out.r2
  have r0 := rs 0 _ rfl
  have r1 := rs 1 _ rfl
  have rf0 := rf 0
  have rf1 := rf 1
  clear qs qf rs rf
  rw [hs2] at q0 q1 qf0 qf1 r0 r1 rf0 rf1 ql rl
  go_region
  all_goals go_wp2_with fail
  all_goals
    have hx := H1.out.put (.slice none 0 0) (.slice none 0 0) (.int .i64 z1) (.int .i64 z2)
    rw [hs2] at hx
    refine bodyPost_ret (HostedOf_ends (g1 := w.heap.size + 1 + 1) (g2 := w.heap.size + 1 + 1 + 1) (a := .slice none 0 0) (b := .slice none 0 0) (c := .int .i64 z1) (k := .int .i64 z2) hx.1 hx.2.1 rfl rfl) rfl ?_
    exact ⟨rfl, HBx.out.trans ((hx.2.2.1.mono (by omega)).drew)⟩

set_option maxRecDepth 20000 in
set_option maxHeartbeats 8000000 in
theorem HostedOf_j (w : World) (l : List Jb) (wl : List Wi) (n u : Int) (v vw : Value) (hv : RowSl Jb.vals w l v) (hvw : RowSl Wi.vals w wl vw) (h0 : (frmF n wl).1 = 0) (hj : (chkJ l).1 ≠ 0) :
    Calls Tryz.prog 24 #[v, .int .i64 n, vw, .int .i64 u] w fun r W => r = .returned (.tuple #[.agg #[.slice none 0 0, .slice none 0 0], .agg #[.int .i64 (chkJ l).1, .int .i64 (chkJ l).2]]) ∧ Below w.heap.size w W := by
  obtain ⟨ad, c, rfl⟩ := hv.len
  obtain ⟨ad1, c1, rfl⟩ := hvw.len
  have hs1 : (w.alloc (.cells #[.int .i64 n] 3)).heap.size = w.heap.size + 1 := by simp
  have hs2 : ((w.alloc (.cells #[.int .i64 n] 3)).alloc (.cells #[.slice ad1 wl.length c1] 53)).heap.size = w.heap.size + 1 + 1 := by simp
  have HBx : Hid (Below w.heap.size w ((w.alloc (.cells #[.int .i64 n] 3)).alloc (.cells #[.slice ad1 wl.length c1] 53))) := below_seq (below_new _ _) (below_new _ _)
  have hbn : ((w.alloc (.cells #[.int .i64 n] 3)).alloc (.cells #[.slice ad1 wl.length c1] 53)).cell? ⟨w.heap.size, 0, none⟩ = some (.int .i64 n) := below_cell (below_new _ _) ((cells_of (l := [_]) (heap_alloc_new w (.cells #[.int .i64 n] 3))).1 0 _ rfl)
  have hbl : ((w.alloc (.cells #[.int .i64 n] 3)).alloc (.cells #[.slice ad1 wl.length c1] 53)).cell? ⟨w.heap.size + 1, 0, none⟩ = some (.slice ad1 wl.length c1) := by
    have := (cells_of (l := [_]) (heap_alloc_new (w.alloc (.cells #[.int .i64 n] 3)) (.cells #[.slice ad1 wl.length c1] 53))).1 0 _ rfl
    rw [hs1] at this
    exact this
  have HBox : Hid (((w.alloc (.cells #[.int .i64 n] 3)).alloc (.cells #[.slice ad1 wl.length c1] 53)).cell? ⟨w.heap.size, 0, none⟩ = some (.int .i64 n) ∧ ((w.alloc (.cells #[.int .i64 n] 3)).alloc (.cells #[.slice ad1 wl.length c1] 53)).cell? ⟨w.heap.size + 1, 0, none⟩ = some (.slice ad1 wl.length c1)) := ⟨hbn, hbl⟩
  have HC := CheckFrame_any ((((w.alloc (.cells #[.int .i64 n] 3)).alloc (.cells #[.slice ad1 wl.length c1] 53)).alloc (.cells #[.slice none 0 0, .slice none 0 0] 41)).alloc (.cells #[.int .i64 0, .int .i64 0] 30)) n wl _ (hvw.below (below_seq HBx.out (TB.start ((w.alloc (.cells #[.int .i64 n] 3)).alloc (.cells #[.slice ad1 wl.length c1] 53))).bel))
  clear hbn hbl
  have HV : Hid (RowSl Jb.vals w l (.slice ad l.length c)) := hv
  clear hv hvw
  rw [h0] at HC
  generalize (frmF n wl).2 = z2 at *
  clear h0
  obtain ⟨z3, hz3⟩ : ∃ z3, (chkJ l).1 = z3 := ⟨_, rfl⟩
  obtain ⟨z4, hz4⟩ : ∃ z4, (chkJ l).2 = z4 := ⟨_, rfl⟩
  have HJ : Hid ((chkJ l).1 = z3 ∧ (chkJ l).2 = z4) := ⟨hz3, hz4⟩
  have hz : (z3 != 0) = true := by rw [← hz3]; simpa using hj
  rw [hz3, hz4]
  clear hz3 hz4 hj
  go_enter Tryz.func24, Tryz.ntmps24
  go_upto_region 4 with (go_at_call 46; refine HC.mono ?_; rintro r w1 ⟨rfl, hb1⟩; have H1 : Hid (TB ((w.alloc (.cells #[.int .i64 n] 3)).alloc (.cells #[.slice ad1 wl.length c1] 53)) (w1.alloc (.cells #[.int .i64 0, .int .i64 z2] 30))) := ((TB.start ((w.alloc (.cells #[.int .i64 n] 3)).alloc (.cells #[.slice ad1 wl.length c1] 53))).grow hb1).grow (below_new _ _); have hl1 : ((w.alloc (.cells #[.int .i64 n] 3)).alloc (.cells #[.slice ad1 wl.length c1] 53)).heap.size < w1.heap.size := lt_of_heap ((TB.start ((w.alloc (.cells #[.int .i64 n] 3)).alloc (.cells #[.slice ad1 wl.length c1] 53))).grow hb1).r1; have hl2 : ((w.alloc (.cells #[.int .i64 n] 3)).alloc (.cells #[.slice ad1 wl.length c1] 53)).heap.size + 1 < w1.heap.size := lt_of_heap ((TB.start ((w.alloc (.cells #[.int .i64 n] 3)).alloc (.cells #[.slice ad1 wl.length c1] 53))).grow hb1).r2; clear hb1 HC)
  rw [hs2] at hl1 hl2
  obtain ⟨fs, -, fl⟩ := cells_of (l := [_, _]) (heap_alloc_new w1 (.cells #[.int .i64 0, .int .i64 z2] 30))
  have g0 := fs 0 _ rfl
  have g1 := fs 1 _ rfl
  clear fs
  generalize w1.alloc (.cells #[.int .i64 0, .int .i64 z2] 30) = w2 at *
  have HC2 := CheckJobs_any w2 l _ (HV.out.below (HBx.out.trans (H1.out.bel.mono (by rw [hs2]; omega))))
  rw [HJ.out.1, HJ.out.2] at HC2
  clear g0 g1 fl
  go_upto_region 6 with (go_at_call 49; refine HC2.mono ?_; rintro r w3 ⟨rfl, hb3⟩; have H3 : Hid (TB ((w.alloc (.cells #[.int .i64 n] 3)).alloc (.cells #[.slice ad1 wl.length c1] 53)) (w3.alloc (.cells #[.int .i64 z3, .int .i64 z4] 30))) := (H1.out.grow hb3).grow (below_new _ _); have hl3 : ((w.alloc (.cells #[.int .i64 n] 3)).alloc (.cells #[.slice ad1 wl.length c1] 53)).heap.size < w3.heap.size := lt_of_heap (H1.out.grow hb3).r1; have hl4 : ((w.alloc (.cells #[.int .i64 n] 3)).alloc (.cells #[.slice ad1 wl.length c1] 53)).heap.size + 1 < w3.heap.size := lt_of_heap (H1.out.grow hb3).r2; clear hb3 HC2)
  rw [hs2] at hl3 hl4
  obtain ⟨fs, -, fl⟩ := cells_of (l := [_, _]) (heap_alloc_new w3 (.cells #[.int .i64 z3, .int .i64 z4] 30))
  have g0 := fs 0 _ rfl
  have g1 := fs 1 _ rfl
  clear fs
  generalize w3.alloc (.cells #[.int .i64 z3, .int .i64 z4] 30) = w4 at *
  obtain ⟨qs, qf, ql⟩ := cells_of (l := [_, _]) H3.out.r1
  have q0 := qs 0 _ rfl
  have q1 := qs 1 _ rfl
  have qf0 := qf 0
  have qf1 := qf 1
  obtain ⟨rs, rf, rl⟩ := cells_of (l := [_, _]) H3.out.r2
  have r0 := rs 0 _ rfl
  have r1 := rs 1 _ rfl
  have rf0 := rf 0
  have rf1 := rf 1
  clear qs qf rs rf
  rw [hs2] at q0 q1 qf0 qf1 r0 r1 rf0 rf1 ql rl
  go_region
  all_goals go_wp2_with fail
  all_goals
    have hx := H3.out.put (.slice none 0 0) (.slice none 0 0) (.int .i64 z3) (.int .i64 z4)
    rw [hs2] at hx
    refine bodyPost_ret (HostedOf_ends (g1 := w.heap.size + 1 + 1) (g2 := w.heap.size + 1 + 1 + 1) (a := .slice none 0 0) (b := .slice none 0 0) (c := .int .i64 z3) (k := .int .i64 z4) hx.1 hx.2.1 rfl rfl) rfl ?_
    exact ⟨rfl, HBx.out.trans ((hx.2.2.1.mono (by omega)).drew)⟩

set_option maxRecDepth 20000 in
set_option maxHeartbeats 8000000 in
theorem HostedOf_u (w : World) (l : List Jb) (wl : List Wi) (n u : Int) (v vw : Value) (hv : RowSl Jb.vals w l v) (hvw : RowSl Wi.vals w wl vw) (h0 : (frmF n wl).1 = 0) (hj : (chkJ l).1 = 0) (hu : ¬ (0 ≤ u ∧ u ≤ 20000)) :
    Calls Tryz.prog 24 #[v, .int .i64 n, vw, .int .i64 u] w fun r W => r = .returned (.tuple #[.agg #[.slice none 0 0, .slice none 0 0], .agg #[.int .i64 3, .int .i64 0]]) ∧ Below w.heap.size w W := by
  obtain ⟨ad, c, rfl⟩ := hv.len
  obtain ⟨ad1, c1, rfl⟩ := hvw.len
  have hs1 : (w.alloc (.cells #[.int .i64 n] 3)).heap.size = w.heap.size + 1 := by simp
  have hs2 : ((w.alloc (.cells #[.int .i64 n] 3)).alloc (.cells #[.slice ad1 wl.length c1] 53)).heap.size = w.heap.size + 1 + 1 := by simp
  have HBx : Hid (Below w.heap.size w ((w.alloc (.cells #[.int .i64 n] 3)).alloc (.cells #[.slice ad1 wl.length c1] 53))) := below_seq (below_new _ _) (below_new _ _)
  have hbn : ((w.alloc (.cells #[.int .i64 n] 3)).alloc (.cells #[.slice ad1 wl.length c1] 53)).cell? ⟨w.heap.size, 0, none⟩ = some (.int .i64 n) := below_cell (below_new _ _) ((cells_of (l := [_]) (heap_alloc_new w (.cells #[.int .i64 n] 3))).1 0 _ rfl)
  have hbl : ((w.alloc (.cells #[.int .i64 n] 3)).alloc (.cells #[.slice ad1 wl.length c1] 53)).cell? ⟨w.heap.size + 1, 0, none⟩ = some (.slice ad1 wl.length c1) := by
    have := (cells_of (l := [_]) (heap_alloc_new (w.alloc (.cells #[.int .i64 n] 3)) (.cells #[.slice ad1 wl.length c1] 53))).1 0 _ rfl
    rw [hs1] at this
    exact this
  have HBox : Hid (((w.alloc (.cells #[.int .i64 n] 3)).alloc (.cells #[.slice ad1 wl.length c1] 53)).cell? ⟨w.heap.size, 0, none⟩ = some (.int .i64 n) ∧ ((w.alloc (.cells #[.int .i64 n] 3)).alloc (.cells #[.slice ad1 wl.length c1] 53)).cell? ⟨w.heap.size + 1, 0, none⟩ = some (.slice ad1 wl.length c1)) := ⟨hbn, hbl⟩
  have HC := CheckFrame_any ((((w.alloc (.cells #[.int .i64 n] 3)).alloc (.cells #[.slice ad1 wl.length c1] 53)).alloc (.cells #[.slice none 0 0, .slice none 0 0] 41)).alloc (.cells #[.int .i64 0, .int .i64 0] 30)) n wl _ (hvw.below (below_seq HBx.out (TB.start ((w.alloc (.cells #[.int .i64 n] 3)).alloc (.cells #[.slice ad1 wl.length c1] 53))).bel))
  clear hbn hbl
  have HV : Hid (RowSl Jb.vals w l (.slice ad l.length c)) := hv
  clear hv hvw
  rw [h0] at HC
  generalize (frmF n wl).2 = z2 at *
  clear h0
  have hu' : (decide (u < 0) = true) ∨ (decide (u < 0) = false ∧ decide (20000 < u) = true) := by
    by_cases h : u < 0
    · exact .inl (decide_eq_true h)
    · exact .inr ⟨decide_eq_false h, decide_eq_true (by omega)⟩
  go_enter Tryz.func24, Tryz.ntmps24
  go_upto_region 4 with (go_at_call 46; refine HC.mono ?_; rintro r w1 ⟨rfl, hb1⟩; have H1 : Hid (TB ((w.alloc (.cells #[.int .i64 n] 3)).alloc (.cells #[.slice ad1 wl.length c1] 53)) (w1.alloc (.cells #[.int .i64 0, .int .i64 z2] 30))) := ((TB.start ((w.alloc (.cells #[.int .i64 n] 3)).alloc (.cells #[.slice ad1 wl.length c1] 53))).grow hb1).grow (below_new _ _); have hl1 : ((w.alloc (.cells #[.int .i64 n] 3)).alloc (.cells #[.slice ad1 wl.length c1] 53)).heap.size < w1.heap.size := lt_of_heap ((TB.start ((w.alloc (.cells #[.int .i64 n] 3)).alloc (.cells #[.slice ad1 wl.length c1] 53))).grow hb1).r1; have hl2 : ((w.alloc (.cells #[.int .i64 n] 3)).alloc (.cells #[.slice ad1 wl.length c1] 53)).heap.size + 1 < w1.heap.size := lt_of_heap ((TB.start ((w.alloc (.cells #[.int .i64 n] 3)).alloc (.cells #[.slice ad1 wl.length c1] 53))).grow hb1).r2; clear hb1 HC)
  rw [hs2] at hl1 hl2
  obtain ⟨fs, -, fl⟩ := cells_of (l := [_, _]) (heap_alloc_new w1 (.cells #[.int .i64 0, .int .i64 z2] 30))
  have g0 := fs 0 _ rfl
  have g1 := fs 1 _ rfl
  clear fs
  generalize w1.alloc (.cells #[.int .i64 0, .int .i64 z2] 30) = w2 at *
  have HC2 := CheckJobs_any w2 l _ (HV.out.below (HBx.out.trans (H1.out.bel.mono (by rw [hs2]; omega))))
  rw [hj] at HC2
  generalize (chkJ l).2 = z4 at *
  clear hj g0 g1 fl
  go_upto_region 7 with (go_at_call 49; refine HC2.mono ?_; rintro r w3 ⟨rfl, hb3⟩; have H3 : Hid (TB ((w.alloc (.cells #[.int .i64 n] 3)).alloc (.cells #[.slice ad1 wl.length c1] 53)) (w3.alloc (.cells #[.int .i64 0, .int .i64 z4] 30))) := (H1.out.grow hb3).grow (below_new _ _); clear hb3 HC2)
  generalize w3.alloc (.cells #[.int .i64 0, .int .i64 z4] 30) = w4 at *
  rcases hu' with hu' | ⟨hu1, hu'⟩
  all_goals
    go_wp2_with (go_at_call 33; refine (_root_.Go.Proofs.YtccoobcggbbciaiGreatDoor.F_any _ _ _).mono ?_; rintro r w5 ⟨rfl, hb5⟩; have H5 : Hid (TB ((w.alloc (.cells #[.int .i64 n] 3)).alloc (.cells #[.slice ad1 wl.length c1] 53)) w5) := H3.out.grow hb5; clear hb5; obtain ⟨qs, qf, ql⟩ := cells_of (l := [_, _]) H5.out.r1; have q0 := qs 0 _ rfl; have q1 := qs 1 _ rfl; have qf0 := qf 0; have qf1 := qf 1; obtain ⟨rs, rf, rl⟩ := cells_of (l := [_, _]) H5.out.r2; have r0 := rs 0 _ rfl; have r1 := rs 1 _ rfl; have rf0 := rf 0; have rf1 := rf 1; clear qs qf rs rf; rw [hs2] at q0 q1 qf0 qf1 r0 r1 rf0 rf1 ql rl)
    have hx := H5.out.put (.slice none 0 0) (.slice none 0 0) (.int .i64 3) (.int .i64 0)
    rw [hs2] at hx
    refine bodyPost_ret (HostedOf_ends (g1 := w.heap.size + 1 + 1) (g2 := w.heap.size + 1 + 1 + 1) (a := .slice none 0 0) (b := .slice none 0 0) (c := .int .i64 3) (k := .int .i64 0) hx.1 hx.2.1 rfl rfl) rfl ?_
    exact ⟨rfl, HBx.out.trans (hx.2.2.1.mono (by omega))⟩

set_option maxRecDepth 20000 in
set_option maxHeartbeats 8000000 in
theorem HostedOf_g (w : World) (l : List Jb) (wl : List Wi) (n u : Int) (v vw : Value) (hv : RowSl Jb.vals w l v) (hvw : RowSl Wi.vals w wl vw) (h0 : (frmF n wl).1 = 0) (hj : (chkJ l).1 = 0) (hu : 0 ≤ u ∧ u ≤ 20000) :
    Calls Tryz.prog 24 #[v, .int .i64 n, vw, .int .i64 u] w fun r W => ∃ v1 v2, r = .returned (.tuple #[.agg #[v1, v2], .agg #[.int .i64 0, .int .i64 0]]) ∧ OutO w W l (opW n wl) u.toNat v1 v2 := by
  obtain ⟨ad, c, rfl⟩ := hv.len
  obtain ⟨ad1, c1, rfl⟩ := hvw.len
  have hs1 : (w.alloc (.cells #[.int .i64 n] 3)).heap.size = w.heap.size + 1 := by simp
  have hs2 : ((w.alloc (.cells #[.int .i64 n] 3)).alloc (.cells #[.slice ad1 wl.length c1] 53)).heap.size = w.heap.size + 1 + 1 := by simp
  have HBx : Hid (Below w.heap.size w ((w.alloc (.cells #[.int .i64 n] 3)).alloc (.cells #[.slice ad1 wl.length c1] 53))) := below_seq (below_new _ _) (below_new _ _)
  have hbn : ((w.alloc (.cells #[.int .i64 n] 3)).alloc (.cells #[.slice ad1 wl.length c1] 53)).cell? ⟨w.heap.size, 0, none⟩ = some (.int .i64 n) := below_cell (below_new _ _) ((cells_of (l := [_]) (heap_alloc_new w (.cells #[.int .i64 n] 3))).1 0 _ rfl)
  have hbl : ((w.alloc (.cells #[.int .i64 n] 3)).alloc (.cells #[.slice ad1 wl.length c1] 53)).cell? ⟨w.heap.size + 1, 0, none⟩ = some (.slice ad1 wl.length c1) := by
    have := (cells_of (l := [_]) (heap_alloc_new (w.alloc (.cells #[.int .i64 n] 3)) (.cells #[.slice ad1 wl.length c1] 53))).1 0 _ rfl
    rw [hs1] at this
    exact this
  have HBox : Hid (((w.alloc (.cells #[.int .i64 n] 3)).alloc (.cells #[.slice ad1 wl.length c1] 53)).cell? ⟨w.heap.size, 0, none⟩ = some (.int .i64 n) ∧ ((w.alloc (.cells #[.int .i64 n] 3)).alloc (.cells #[.slice ad1 wl.length c1] 53)).cell? ⟨w.heap.size + 1, 0, none⟩ = some (.slice ad1 wl.length c1)) := ⟨hbn, hbl⟩
  have HC := CheckFrame_any ((((w.alloc (.cells #[.int .i64 n] 3)).alloc (.cells #[.slice ad1 wl.length c1] 53)).alloc (.cells #[.slice none 0 0, .slice none 0 0] 41)).alloc (.cells #[.int .i64 0, .int .i64 0] 30)) n wl _ (hvw.below (below_seq HBx.out (TB.start ((w.alloc (.cells #[.int .i64 n] 3)).alloc (.cells #[.slice ad1 wl.length c1] 53))).bel))
  clear hbn hbl
  have HV : Hid (RowSl Jb.vals w l (.slice ad l.length c) ∧ RowSl Wi.vals w wl (.slice ad1 wl.length c1) ∧ (frmF n wl).1 = 0 ∧ (chkJ l).1 = 0) := ⟨hv, hvw, h0, hj⟩
  clear hv hvw
  rw [h0] at HC
  generalize (frmF n wl).2 = z2 at *
  obtain ⟨m, rfl⟩ : ∃ m : Nat, u = (m : Int) := ⟨u.toNat, by omega⟩
  rw [Int.toNat_natCast]
  have c3 : decide ((m : Int) < 0) = false := by simp
  have c4 : decide (20000 < (m : Int)) = false := by simp; omega
  obtain ⟨hcl, hcok, -⟩ := chkJ_ok hj
  have HCO : Hid (∀ x ∈ l, okJ x) := hcok
  clear hcok h0
  go_enter Tryz.func24, Tryz.ntmps24
  go_upto_region 4 with (go_at_call 46; refine HC.mono ?_; rintro r w1 ⟨rfl, hb1⟩; have H1 : Hid (TB ((w.alloc (.cells #[.int .i64 n] 3)).alloc (.cells #[.slice ad1 wl.length c1] 53)) (w1.alloc (.cells #[.int .i64 0, .int .i64 z2] 30))) := ((TB.start ((w.alloc (.cells #[.int .i64 n] 3)).alloc (.cells #[.slice ad1 wl.length c1] 53))).grow hb1).grow (below_new _ _); have hl1 : ((w.alloc (.cells #[.int .i64 n] 3)).alloc (.cells #[.slice ad1 wl.length c1] 53)).heap.size < w1.heap.size := lt_of_heap ((TB.start ((w.alloc (.cells #[.int .i64 n] 3)).alloc (.cells #[.slice ad1 wl.length c1] 53))).grow hb1).r1; have hl2 : ((w.alloc (.cells #[.int .i64 n] 3)).alloc (.cells #[.slice ad1 wl.length c1] 53)).heap.size + 1 < w1.heap.size := lt_of_heap ((TB.start ((w.alloc (.cells #[.int .i64 n] 3)).alloc (.cells #[.slice ad1 wl.length c1] 53))).grow hb1).r2; clear hb1 HC)
  rw [hs2] at hl1 hl2
  obtain ⟨fs, -, fl⟩ := cells_of (l := [_, _]) (heap_alloc_new w1 (.cells #[.int .i64 0, .int .i64 z2] 30))
  have g0 := fs 0 _ rfl
  have g1 := fs 1 _ rfl
  clear fs
  generalize w1.alloc (.cells #[.int .i64 0, .int .i64 z2] 30) = w2 at *
  have HC2 := CheckJobs_any w2 l _ (HV.out.1.below (HBx.out.trans (H1.out.bel.mono (by rw [hs2]; omega))))
  rw [hj] at HC2
  generalize (chkJ l).2 = z4 at *
  clear hj g0 g1 fl
  go_upto_region 7 with (go_at_call 49; refine HC2.mono ?_; rintro r w3 ⟨rfl, hb3⟩; have H3 : Hid (TB ((w.alloc (.cells #[.int .i64 n] 3)).alloc (.cells #[.slice ad1 wl.length c1] 53)) (w3.alloc (.cells #[.int .i64 0, .int .i64 z4] 30))) := (H1.out.grow hb3).grow (below_new _ _); clear hb3 HC2)
  generalize w3.alloc (.cells #[.int .i64 0, .int .i64 z4] 30) = w4 at *
  have HW4 : Hid (Below w.heap.size w w4) := HBx.out.trans (H3.out.bel.mono (by rw [hs2]; omega))
  have HPl := Played_any w4 l _ 1 true m (opW n wl) (.pointer (some ⟨w.heap.size, 0, none⟩)) (.pointer (some ⟨w.heap.size + 1, 0, none⟩)) (HV.out.1.below HW4.out) (.inl rfl) hcl HCO.out (by omega) (fun W hW t _ => open_doc W n wl ad1 c1 _ _ t HV.out.2.2.1 (HV.out.2.1.below (below_seq HW4.out hW)) (below_cell (below_seq H3.out.bel hW) HBox.out.1) (below_cell (below_seq H3.out.bel hW) HBox.out.2))
  go_wp2_with (go_at_call 50; refine HPl.mono ?_; rintro r w5 ⟨s, mb, eb, rb, cnt, vs, hpl, rfl, href⟩; have H5 : Hid (PlaysP l (opW n wl) 1 true m s ∧ RefW w4 w5 mb eb rb cnt m s.left s.ends s.runs vs) := ⟨hpl, href⟩; clear hpl href HPl)
  go_wp2_with (go_at_call 53; refine (One_any w4 w5 mb eb rb cnt m s.left s.ends s.runs vs H5.out.2 (playsP_ok HCO.out m s H5.out.1).runs (by omega)).mono ?_; rintro r w6 ⟨rfl, hb6, hh6⟩; have H6 : Hid (TB ((w.alloc (.cells #[.int .i64 n] 3)).alloc (.cells #[.slice ad1 wl.length c1] 53)) w6 ∧ w6.heap[w5.heap.size]? = some (.cells (s.runs.map (Value.int .i64)).toArray 3 (0, 0)) ∧ w6.heap[eb]? = some (.cells (s.ends.map (Value.int .i64)).toArray 3 (0, 0)) ∧ w5.heap.size ≠ eb ∧ w4.heap.size ≤ w5.heap.size ∧ w4.heap.size ≤ eb ∧ ((w.alloc (.cells #[.int .i64 n] 3)).alloc (.cells #[.slice ad1 wl.length c1] 53)).heap.size + 1 < w4.heap.size) := ⟨(H3.out.grow H5.out.2.bel).grow hb6, hh6, (hb6.block _ (lt_of_heap H5.out.2.ev)).trans H5.out.2.ev, by have := lt_of_heap H5.out.2.ev; omega, H5.out.2.bel.size, H5.out.2.low.2.1, lt_of_heap H3.out.r2⟩; clear hb6 hh6; obtain ⟨qs, qf, ql⟩ := cells_of (l := [_, _]) H6.out.1.r1; have q0 := qs 0 _ rfl; have q1 := qs 1 _ rfl; have qf0 := qf 0; have qf1 := qf 1; obtain ⟨rs, rf, rl⟩ := cells_of (l := [_, _]) H6.out.1.r2; have r0 := rs 0 _ rfl; have r1 := rs 1 _ rfl; have rf0 := rf 0; have rf1 := rf 1; clear qs qf rs rf; rw [hs2] at q0 q1 qf0 qf1 r0 r1 rf0 rf1 ql rl)
  have hx := H6.out.1.put (.slice (some ⟨w5.heap.size, 0, none⟩) m m) (.slice (some ⟨eb, 0, none⟩) l.length l.length) (.int .i64 0) (.int .i64 0)
  have hsz := H6.out.2.2.2.2
  rw [hs2] at hx hsz
  refine bodyPost_ret (HostedOf_ends (g1 := w.heap.size + 1 + 1) (g2 := w.heap.size + 1 + 1 + 1) (a := .slice (some ⟨w5.heap.size, 0, none⟩) m m) (b := .slice (some ⟨eb, 0, none⟩) l.length l.length) (c := .int .i64 0) (k := .int .i64 0) hx.1 hx.2.1 rfl rfl) rfl ?_
  refine ⟨_, _, rfl, ⟨s, w5.heap.size, eb, playsP_O _ _ H5.out.1, rfl, rfl, ?_, by omega, ?_, by omega, H6.out.2.2.2.1⟩, HBx.out.trans (hx.2.2.1.mono (by omega))⟩
  · rw [hx.2.2.2 eb (by omega)]; exact H6.out.2.2.1
  · rw [hx.2.2.2 _ (by omega)]; exact H6.out.2.1

theorem HostedOf_res (w : World) (l : List Jb) (wl : List Wi) (n u : Int) (v vw : Value) (hv : RowSl Jb.vals w l v) (hvw : RowSl Wi.vals w wl vw) :
    Calls Tryz.prog 24 #[v, .int .i64 n, vw, .int .i64 u] w fun r W => ∃ v1 v2 z1 z2 rs es, r = .returned (.tuple #[.agg #[v1, v2], .agg #[.int .i64 z1, .int .i64 z2]]) ∧ HoRes l n wl u z1 z2 rs es ∧ Res w W rs es v1 v2 := by
  by_cases h0 : (frmF n wl).1 = 0
  · by_cases h1 : (chkJ l).1 = 0
    · by_cases h2 : 0 ≤ u ∧ u ≤ 20000
      · obtain ⟨hcl, hcok, -⟩ := chkJ_ok h1
        refine (HostedOf_g w l wl n u v vw hv hvw h0 h1 h2).mono ?_
        rintro r W ⟨v1, v2, rfl, ho⟩
        obtain ⟨s, hp, hr⟩ := res_outO hcok hcl (by omega) ho
        exact ⟨v1, v2, 0, 0, s.runs, s.ends, rfl, .inr ⟨h0, .inr ⟨h1, .inr ⟨h2, rfl, rfl, s, hp, rfl, rfl⟩⟩⟩, hr⟩
      · refine (HostedOf_u w l wl n u v vw hv hvw h0 h1 h2).mono ?_
        rintro r W ⟨rfl, hb⟩
        exact ⟨_, _, _, _, [], [], rfl, .inr ⟨h0, .inr ⟨h1, .inl ⟨h2, rfl, rfl, rfl, rfl⟩⟩⟩, res_nil hb⟩
    · refine (HostedOf_j w l wl n u v vw hv hvw h0 h1).mono ?_
      rintro r W ⟨rfl, hb⟩
      exact ⟨_, _, _, _, [], [], rfl, .inr ⟨h0, .inl ⟨h1, rfl, rfl, rfl, rfl⟩⟩, res_nil hb⟩
  · refine (HostedOf_f w l wl n u v vw hv hvw h0).mono ?_
    rintro r W ⟨rfl, hb⟩
    exact ⟨_, _, _, _, [], [], rfl, .inl ⟨h0, rfl, rfl, rfl, rfl⟩, res_nil hb⟩
end Go.Proofs.YtccoobcggbbciaiGreatDoor.S8
