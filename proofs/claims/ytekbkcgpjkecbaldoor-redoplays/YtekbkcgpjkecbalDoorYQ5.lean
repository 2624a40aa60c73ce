import Derived.Test.YtekbkcgpjkecbalDoorSSN
import Derived.Test.YtekbkcgpjkecbalDoorSPHa
import Derived.Test.YtekbkcgpjkecbalDoorSPV
import Derived.Test.YtekbkcgpjkecbalDoorXS
import Derived.Test.YtekbkcgpjkecbalDoorJL
import Derived.Test.YtekbkcgpjkecbalDoorZC3
import Derived.Test.YtekbkcgpjkecbalDoorYP4
import Derived.Test.YtekbkcgpjkecbalDoorYQ1
import Derived.Test.YtekbkcgpjkecbalDoorZE
import Derived.Test.YtekbkcgpjkecbalDoorSLW
import Derived.Test.YtekbkcgpjkecbalDoorCards
import Derived.Test.YtekbkcgpjkecbalDoorTie
import Derived.LaidMore
import Derived.ChangeArms
import Derived.OpenShut
import Derived.WideKeyArgs
import Derived.Deep.DeepHandedRow
namespace Go.Proofs.YtekbkcgpjkecbalDoor.S8
open Go.ChangeShapes Go.WideShapes Go.ChangeAt Go.RowKit

theorem grown_of_below {W W' : World} (hb : Below W.heap.size W W') : W.grownBy W' none := ⟨hb.os, hb.tape, hb.output, hb.size, fun i hi _ => hb.block i hi⟩

theorem flat_nu (xs : List Int) : xs.flatMap nuV = xs.map (Value.int .i64) := by
  induction xs with
  | nil => rfl
  | cons x r ih => rw [List.flatMap_cons, ih]; rfl

theorem row_block {W : World} {g : Nat} {xs : List Int} (h : W.heap[g]? = some (.cells (xs.map (Value.int .i64)).toArray 3 (0, 0))) : RowSl nuV W xs (.slice (some ⟨g, 0, none⟩) xs.length xs.length) :=
  ⟨_, _, rfl, (fun e => by cases e), Nat.le_refl _, .inr ⟨g, 0, rfl, fun q u hq => by
    rw [flat_nu] at hq
    rw [Nat.zero_add]
    exact (cells_of h).1 q u hq⟩⟩

/-- One's own list of numbers, or none. -/
def RowOwn (B : Nat) (W : World) (xs : List Int) (v : Value) (og : Option Nat) : Prop :=
  (og = none ∧ xs = [] ∧ v = .slice none 0 0) ∨ (∃ g, og = some g ∧ v = .slice (some ⟨g, 0, none⟩) xs.length xs.length ∧ W.heap[g]? = some (.cells (xs.map (Value.int .i64)).toArray 3 (0, 0)) ∧ B ≤ g ∧ xs.length ≤ 1000000)

theorem RowOwn.row {B : Nat} {W : World} {xs : List Int} {v : Value} {og : Option Nat} (h : RowOwn B W xs v og) : RowSl nuV W xs v := by
  rcases h with ⟨-, rfl, rfl⟩ | ⟨g, -, rfl, h, -⟩
  · exact RowSl.nil _ _
  · exact row_block h

theorem RowOwn.keep {B : Nat} {W W' : World} {xs : List Int} {v : Value} {og row : Option Nat} (h : RowOwn B W xs v og) (hg : W.grownBy W' row) (hn : ∀ g, og = some g → row ≠ some g) : RowOwn B W' xs v og := by
  rcases h with h | ⟨g, e, e2, h, hB, hl⟩
  · exact .inl h
  · exact .inr ⟨g, e, e2, (hg.block g (lt_of_heap h) (fun q => hn g e q.symm)).trans h, hB, hl⟩

theorem heap_setCells {g q : Nat} (hq : q ≠ g) : ∀ (l : List Value) (o : Nat) (w : World), (w.setCells g o l).heap[q]? = w.heap[q]?
  | [], _, _ => rfl
  | v :: r, o, w => by
    have h1 := heap_setCells hq r (o + 1) (w.setCell ⟨g, o, none⟩ v)
    have h2 : (w.setCell ⟨g, o, none⟩ v).heap[q]? = w.heap[q]? := Below.heap_setCell _ _ _ _ hq
    exact h1.trans h2

theorem grown_setCells {g : Nat} (l : List Value) (w : World) : w.grownBy (w.setCells g 0 l) (some g) := by
  have hb := below_setCells (N := 0) (b := g) (Nat.zero_le _) l 0 w
  exact ⟨hb.os, hb.tape, hb.output, hb.size, fun q _ hne => heap_setCells (fun e => hne (by rw [e])) l 0 w⟩

set_option maxRecDepth 20000 in
set_option maxHeartbeats 4000000 in
/-- Spoil changes one block alone. -/
theorem Spoil_row (w : World) (B : Nat) (xs : List Int) (v : Value) (og : Option Nat) (h : RowOwn B w xs v og) :
    Calls Tryd.prog 19 #[v] w fun r w' => r = .returned (.tuple #[]) ∧ w.grownBy w' og := by
  obtain ⟨i0, hi0, hz0, hz1, hz2⟩ := info_parts info3
  rcases h with ⟨rfl, rfl, rfl⟩ | ⟨g, rfl, rfl, hg, hB, hm⟩
  · have hcl : ∀ ty, (Builtin.clear_ #[36] ty #[.slice none 0 0]).run Tryd.prog w = .ok (.tuple #[]) w := fun ty => by simp [Builtin.clear_, run_underlying Tryd.underlying36]
    go_enter Tryd.func19, Tryd.ntmps19
    go_wp2
    go_end0
    exact ⟨rfl, grown_of_below (Below.refl _ _)⟩
  · have hz : ∀ w, (zeroValue 3).run Tryd.prog w = .ok (.int .i64 0) w := fun w => by simp [zeroValue, typeInfo, hi0, hz0]
    have hcl' : ∃ w1, (∀ ty, (Builtin.clear_ #[36] ty #[.slice (some ⟨g, 0, none⟩) xs.length xs.length]).run Tryd.prog w = .ok (.tuple #[]) w1) ∧ w.grownBy w1 (some g) := by
      by_cases hc : xs.length = 0
      · rw [hc]
        exact ⟨w, fun ty => by simp [Builtin.clear_, run_underlying Tryd.underlying36], ⟨rfl, rfl, rfl, Nat.le_refl _, fun _ _ _ => rfl⟩⟩
      · obtain ⟨l, hl⟩ := clear_one w 36 3 36 (.int .i64 0) Tryd.underlying36 hz rfl g xs.length xs.length (by omega) (fun j hj => by unfold World.cell?; rw [hg]; simp; omega) (fun j hj => by unfold World.frozen?; rw [hg]; simp)
        exact ⟨_, fun ty => hl, grown_setCells l w⟩
    obtain ⟨w1, hcl, hb1⟩ := hcl'
    have HB : Hid (w.grownBy w1 (some g)) := hb1
    generalize xs.length = m at *
    clear hg hz hb1
    go_enter Tryd.func19, Tryd.ntmps19
    go_wp2
    go_end0
    exact ⟨rfl, HB.out⟩

def smallB (a b : Int) : Bool := (decide (a ≤ 300) && decide (b ≤ 3000)) || decide (4000 < a) || decide (20000 < b)
theorem small_any (w : World) (a b : Int) : Calls Tryd.prog 11 #[.int .i64 a, .int .i64 b] w fun r w' => r = .returned (.bool (smallB a b)) ∧ w' = w := by
  unfold smallB
  rcases Bool.eq_false_or_eq_true (decide (a ≤ 300)) with h1 | h1 <;> rcases Bool.eq_false_or_eq_true (decide (b ≤ 3000)) with h2 | h2 <;> rcases Bool.eq_false_or_eq_true (decide (4000 < a)) with h3 | h3 <;> rcases Bool.eq_false_or_eq_true (decide (20000 < b)) with h4 | h4 <;> rw [h1, h2, h3, h4] <;> (go_enter Tryd.func11, Tryd.ntmps11; go_wp2_with fail; go_ret; exact ⟨rfl, rfl⟩)

/-- Same, of what was played. -/
theorem SameP_any (w : World) (rs es : List Int) (v1 v2 v3 v4 : Value) (hl : rs.length ≤ 1000000) (hl2 : es.length ≤ 1000000) (h1 : RowSl nuV w rs v1) (h2 : RowSl nuV w es v2) (h3 : RowSl nuV w rs v3) (h4 : RowSl nuV w es v4) :
    Calls Tryd.prog 16 #[.agg #[v1, v2], .agg #[v3, v4]] w fun r w' => r = .returned (.bool true) ∧ Below w.heap.size w w' := by
  obtain ⟨a1, c1, rfl⟩ := h1.len
  obtain ⟨a2, c2, rfl⟩ := h2.len
  obtain ⟨a3, c3, rfl⟩ := h3.len
  obtain ⟨a4, c4, rfl⟩ := h4.len
  have hb : Below w.heap.size w ((w.alloc (.cells #[.slice a1 rs.length c1, .slice a2 es.length c2] 43)).alloc (.cells #[.slice a3 rs.length c3, .slice a4 es.length c4] 43)) := below_seq (below_new _ _) (below_new _ _)
  have HS := SameN_any _ rs _ _ (by omega) (h1.below hb) (h3.below hb)
  have HB : Hid (Below w.heap.size w ((w.alloc (.cells #[.slice a1 rs.length c1, .slice a2 es.length c2] 43)).alloc (.cells #[.slice a3 rs.length c3, .slice a4 es.length c4] 43)) ∧ RowSl nuV w es (.slice a2 es.length c2) ∧ RowSl nuV w es (.slice a4 es.length c4)) := ⟨hb, h2, h4⟩
  have hx1 : ((w.alloc (.cells #[.slice a1 rs.length c1, .slice a2 es.length c2] 43)).alloc (.cells #[.slice a3 rs.length c3, .slice a4 es.length c4] 43)).heap[w.heap.size]? = some (.cells [.slice a1 rs.length c1, .slice a2 es.length c2].toArray 43 (0, 0)) := (Below.heap_alloc _ _ _ (by simp)).trans (heap_alloc_new _ _)
  have hx2 : ((w.alloc (.cells #[.slice a1 rs.length c1, .slice a2 es.length c2] 43)).alloc (.cells #[.slice a3 rs.length c3, .slice a4 es.length c4] 43)).heap[w.heap.size + 1]? = some (.cells [.slice a3 rs.length c3, .slice a4 es.length c4].toArray 43 (0, 0)) := by
    have := heap_alloc_new (w.alloc (.cells #[.slice a1 rs.length c1, .slice a2 es.length c2] 43)) (.cells #[.slice a3 rs.length c3, .slice a4 es.length c4] 43)
    simpa using this
  clear h1 h2 h3 h4 hb
  go_enter Tryd.func16, Tryd.ntmps16
  go_wp2_with (go_at_call 21; refine HS.mono ?_; rintro r w2 ⟨rfl, hb2⟩; have H2 : Hid (Below w.heap.size w w2) := below_seq HB.out.1 hb2; have hy1 := (hb2.block _ (lt_of_heap hx1)).trans hx1; have hy2 := (hb2.block _ (lt_of_heap hx2)).trans hx2; have q1 := (cells_of hy1).1 1 _ rfl; have q2 := (cells_of hy2).1 1 _ rfl; clear hy1 hy2 hb2 HS)
  go_wp2_with (go_at_call 21; refine (SameN_any _ es _ _ (by omega) (HB.out.2.1.below H2.out) (HB.out.2.2.below H2.out)).mono ?_; rintro r w3 ⟨rfl, hb3⟩; have H3 : Hid (Below w.heap.size w w3) := below_seq H2.out hb3; clear hb3)
  go_ret
  exact ⟨rfl, H3.out⟩

def Res (w W : World) (rs es : List Int) (v1 v2 : Value) : Prop := Below w.heap.size w W ∧ rs.length ≤ 1000000 ∧ es.length ≤ 1000000 ∧ ∃ o1 o2, RowOwn w.heap.size W rs v1 o1 ∧ RowOwn w.heap.size W es v2 o2 ∧ ∀ g, o1 = some g → o2 ≠ some g

theorem res_nil {w W : World} (h : Below w.heap.size w W) : Res w W [] [] (.slice none 0 0) (.slice none 0 0) := ⟨h, by simp, by simp, none, none, .inl ⟨rfl, rfl, rfl⟩, .inl ⟨rfl, rfl, rfl⟩, fun g e => by cases e⟩


/-- What must come out. -/
def RpRes (l : List Jb) (sp : Int) (fs : List Int) (n : Int) (z1 z2 : Int) (rs es : List Int) : Prop :=
  ((chkR l sp fs n).1 ≠ 0 ∧ z1 = (chkR l sp fs n).1 ∧ z2 = (chkR l sp fs n).2 ∧ rs = [] ∧ es = []) ∨ ((chkR l sp fs n).1 = 0 ∧ z1 = 0 ∧ z2 = 0 ∧ ∃ q, PlaysR l sp (fun t => decide ((t : Int) ∈ fs)) n.toNat q ∧ rs = q.s.runs ∧ es = q.s.ends)

theorem rpRes_unique {l : List Jb} {sp : Int} {fs : List Int} {n z1 z2 y1 y2 : Int} {rs es rs' es' : List Int} (h : RpRes l sp fs n z1 z2 rs es) (h' : RpRes l sp fs n y1 y2 rs' es') : z1 = y1 ∧ z2 = y2 ∧ rs = rs' ∧ es = es' := by
  rcases h with ⟨h0, rfl, rfl, rfl, rfl⟩ | ⟨h0, rfl, rfl, s, hs, rfl, rfl⟩
  · rcases h' with ⟨-, rfl, rfl, rfl, rfl⟩ | ⟨h1, -⟩
    · exact ⟨rfl, rfl, rfl, rfl⟩
    · exact absurd h1 h0
  · rcases h' with ⟨h1, -⟩ | ⟨-, rfl, rfl, s', hs', rfl, rfl⟩
    · exact absurd h0 h1
    · rw [playsR_unique _ _ _ hs hs']; exact ⟨rfl, rfl, rfl, rfl⟩
theorem Res.slices {w W : World} {rs es : List Int} {v1 v2 : Value} (h : Res w W rs es v1 v2) : ∃ a1 c1 a2 c2, v1 = .slice a1 rs.length c1 ∧ v2 = .slice a2 es.length c2 := by
  obtain ⟨-, -, -, o1, o2, h1, h2, -⟩ := h
  obtain ⟨a1, c1, e1⟩ := h1.row.len
  obtain ⟨a2, c2, e2⟩ := h2.row.len
  exact ⟨a1, c1, a2, c2, e1, e2⟩

theorem Res.rows {w W : World} {rs es : List Int} {v1 v2 : Value} (h : Res w W rs es v1 v2) : RowSl nuV W rs v1 ∧ RowSl nuV W es v2 := by
  obtain ⟨-, -, -, o1, o2, h1, h2, -⟩ := h
  exact ⟨h1.row, h2.row⟩


theorem PlayR_res (w : World) (l : List Jb) (sp : Int) (fs : List Int) (n : Int) (v vf : Value) (hv : RowSl Jb.vals w l v) (hf : RowSl nuV w fs vf) :
    Calls Tryd.prog 15 #[v, .int .i64 sp, vf, .int .i64 n] w fun r W => ∃ v1 v2 z1 z2 rs es, r = .returned (.tuple #[.agg #[v1, v2], .agg #[.int .i64 z1, .int .i64 z2]]) ∧ RpRes l sp fs n z1 z2 rs es ∧ Res w W rs es v1 v2 := by
  by_cases h0 : (chkR l sp fs n).1 = 0
  · obtain ⟨k1, k2, k3, k4, k5, k6⟩ := chkR_ok h0
    obtain ⟨hcl, hcok, -⟩ := chkJ_ok k1
    have hn : 0 ≤ n ∧ n ≤ 20000 := by unfold within at k3; simpa using k3
    obtain ⟨m, rfl⟩ : ∃ m : Nat, n = (m : Int) := ⟨n.toNat, by omega⟩
    refine (PlayR_good w l sp fs m v vf hv hf h0).mono ?_
    rintro r W ⟨v1, v2, rfl, ⟨q, rb, eb, hp, rfl, rfl, h1, h2, hne, b1, b2⟩, hbel⟩
    have hk := (playsR_ok hcok m q hp).ok
    refine ⟨_, _, 0, 0, q.s.runs, q.s.ends, rfl, .inr ⟨h0, rfl, rfl, q, hp, rfl, rfl⟩, hbel, by rw [hk.runs]; omega, by rw [hk.ends]; omega, some rb, some eb, .inr ⟨rb, rfl, by rw [hk.runs], h1, b1, by rw [hk.runs]; omega⟩, .inr ⟨eb, rfl, by rw [hk.ends], h2, b2, by rw [hk.ends]; omega⟩, fun g e e2 => ?_⟩
    cases e
    exact hne (Option.some.inj e2).symm
  · refine (PlayR_bad w l sp fs n v vf hv hf h0).mono ?_
    rintro r W ⟨rfl, hb⟩
    exact ⟨_, _, _, _, [], [], rfl, .inl ⟨h0, rfl, rfl, rfl, rfl⟩, res_nil hb⟩

theorem PlayAnew_res (w : World) (l : List Jb) (sp : Int) (fs : List Int) (n : Int) (v vf : Value) (hv : RowSl Jb.vals w l v) (hf : RowSl nuV w fs vf) :
    Calls Tryd.prog 14 #[v, .int .i64 sp, vf, .int .i64 n] w fun r W => ∃ v1 v2 z1 z2 rs es, r = .returned (.tuple #[.agg #[v1, v2], .agg #[.int .i64 z1, .int .i64 z2]]) ∧ RpRes l sp fs n z1 z2 rs es ∧ rs.length ≤ 1000000 ∧ es.length ≤ 1000000 ∧ RowSl nuV W rs v1 ∧ RowSl nuV W es v2 ∧ Below w.heap.size w W := by
  by_cases h0 : (chkR l sp fs n).1 = 0
  · obtain ⟨k1, k2, k3, k4, k5, k6⟩ := chkR_ok h0
    obtain ⟨hcl, hcok, -⟩ := chkJ_ok k1
    have hn : 0 ≤ n ∧ n ≤ 20000 := by unfold within at k3; simpa using k3
    obtain ⟨m, rfl⟩ : ∃ m : Nat, n = (m : Int) := ⟨n.toNat, by omega⟩
    refine (PlayAnew_good w l sp fs m v vf hv hf h0).mono ?_
    rintro r W ⟨q, v1, v2, rfl, hp, h1, h2, hbel⟩
    have hk := (playsR_ok hcok m q hp).ok
    exact ⟨_, _, 0, 0, q.s.runs, q.s.ends, rfl, .inr ⟨h0, rfl, rfl, q, hp, rfl, rfl⟩, by rw [hk.runs]; omega, by rw [hk.ends]; omega, h1, h2, hbel⟩
  · refine (PlayAnew_bad w l sp fs n v vf hv hf h0).mono ?_
    rintro r W ⟨rfl, hb⟩
    exact ⟨_, _, _, _, [], [], rfl, .inl ⟨h0, rfl, rfl, rfl, rfl⟩, by simp, by simp, RowSl.nil _ _, RowSl.nil _ _, hb⟩
end Go.Proofs.YtekbkcgpjkecbalDoor.S8
namespace Go.Proofs.YtekbkcgpjkecbalDoor.S8
open Go.ChangeShapes Go.WideShapes Go.ChangeAt Go.RowKit

/-- What the law holds to the end. -/
structure PLL (w W : World) (l : List Jb) (fs : List Int) (o1 o2 : Value) (G : Nat) (rs es : List Int) (b1 b2 : Value) (z1 z2 : Int) : Prop where
  bel : Below w.heap.size w W
  jobs : Lent Jb.vals W l noJ o1
  flts : Lent nuV W fs (-9) o2
  c1 : W.heap[G]? = some (.cells [b1, b2].toArray 43 (0, 0))
  c2 : W.heap[G + 1]? = some (.cells [.int .i64 z1, .int .i64 z2].toArray 30 (0, 0))
  r1 : RowSl nuV W rs b1
  r2 : RowSl nuV W es b2

theorem PLL.grow {w W W' : World} {l : List Jb} {fs : List Int} {o1 o2 : Value} {G : Nat} {rs es : List Int} {b1 b2 : Value} {z1 z2 : Int} (h : PLL w W l fs o1 o2 G rs es b1 b2 z1 z2) (hb : Below W.heap.size W W') : PLL w W' l fs o1 o2 G rs es b1 b2 z1 z2 :=
  ⟨below_seq h.bel hb, h.jobs.below hb, h.flts.below hb, (hb.block _ (lt_of_heap h.c1)).trans h.c1, (hb.block _ (lt_of_heap h.c2)).trans h.c2, h.r1.below hb, h.r2.below hb⟩

/-- What a round holds. -/
structure RND (wr W : World) (D : Nat) (rs es : List Int) (v1 v2 : Value) (p1 p2 : Option Nat) : Prop where
  bel : Below wr.heap.size wr W
  d1 : W.heap[D]? = some (.cells [v1, v2].toArray 43 (0, 0))
  r1 : RowOwn wr.heap.size W rs v1 p1
  r2 : RowOwn wr.heap.size W es v2 p2
  ne : ∀ g, p1 = some g → p2 ≠ some g
  nd : p1 ≠ some D ∧ p2 ≠ some D
  lo : (∀ g, p1 = some g → wr.heap.size ≤ g) ∧ (∀ g, p2 = some g → wr.heap.size ≤ g)

theorem RND.grow {wr W W' : World} {D : Nat} {rs es : List Int} {v1 v2 : Value} {p1 p2 : Option Nat} (h : RND wr W D rs es v1 v2 p1 p2) (hb : Below W.heap.size W W') : RND wr W' D rs es v1 v2 p1 p2 :=
  ⟨below_seq h.bel hb, (hb.block _ (lt_of_heap h.d1)).trans h.d1, h.r1.keep (grown_of_below hb) (fun _ _ e => by cases e), h.r2.keep (grown_of_below hb) (fun _ _ e => by cases e), h.ne, h.nd, h.lo⟩

/-- What it holds behind the first Spoil. -/
structure RN2 (wr W : World) (D : Nat) (es : List Int) (v1 v2 : Value) (p2 : Option Nat) : Prop where
  bel : Below wr.heap.size wr W
  d1 : W.heap[D]? = some (.cells [v1, v2].toArray 43 (0, 0))
  r2 : RowOwn wr.heap.size W es v2 p2
  lo : ∀ g, p2 = some g → wr.heap.size ≤ g

theorem RN2.grow {wr W W' : World} {D : Nat} {es : List Int} {v1 v2 : Value} {p2 : Option Nat} (h : RN2 wr W D es v1 v2 p2) (hb : Below W.heap.size W W') : RN2 wr W' D es v1 v2 p2 :=
  ⟨below_seq h.bel hb, (hb.block _ (lt_of_heap h.d1)).trans h.d1, h.r2.keep (grown_of_below hb) (fun _ _ e => by cases e), h.lo⟩

theorem RND.spoil {wr W W' : World} {D : Nat} {rs es : List Int} {v1 v2 : Value} {p1 p2 : Option Nat} (h : RND wr W D rs es v1 v2 p1 p2) (hg : W.grownBy W' p1) : RN2 wr W' D es v1 v2 p2 :=
  ⟨h.bel.trans (grownBy_below hg h.bel.size h.lo.1), (hg.block _ (lt_of_heap h.d1) (fun e => h.nd.1 e.symm)).trans h.d1, h.r2.keep hg (fun g e e2 => h.ne g e2 e), h.lo.2⟩

theorem RN2.spoil {wr W W' : World} {D : Nat} {es : List Int} {v1 v2 : Value} {p2 : Option Nat} (h : RN2 wr W D es v1 v2 p2) (hg : W.grownBy W' p2) : Below wr.heap.size wr W' :=
  h.bel.trans (grownBy_below hg h.bel.size h.lo)

theorem RND.start {wr W W' : World} {rs es : List Int} {v1 v2 : Value} (h : Res wr W rs es v1 v2) (hb : Below W.heap.size W W') (hd : W'.heap[W.heap.size]? = some (.cells [v1, v2].toArray 43 (0, 0))) : ∃ p1 p2, RND wr W' W.heap.size rs es v1 v2 p1 p2 := by
  obtain ⟨hbel, -, -, p1, p2, h1, h2, hne⟩ := h
  have key : ∀ (xs : List Int) v p, RowOwn wr.heap.size W xs v p → p ≠ some W.heap.size ∧ ∀ g, p = some g → wr.heap.size ≤ g := fun xs v p hp => by
    rcases hp with ⟨rfl, -⟩ | ⟨g, rfl, -, hg, hB, -⟩
    · exact ⟨by simp, fun g e => by cases e⟩
    · refine ⟨fun e => ?_, fun q e => by cases e; exact hB⟩
      have := lt_of_heap hg
      have e2 : g = W.heap.size := Option.some.inj e
      omega
  exact ⟨p1, p2, below_seq hbel hb, hd, h1.keep (grown_of_below hb) (fun _ _ e => by cases e), h2.keep (grown_of_below hb) (fun _ _ e => by cases e), hne, ⟨(key _ _ _ h1).1, (key _ _ _ h2).1⟩, (key _ _ _ h1).2, (key _ _ _ h2).2⟩


set_option maxRecDepth 20000 in
set_option maxHeartbeats 8000000 in
theorem rp_walk (w : World) (l : List Jb) (sp : Int) (fs : List Int) (n : Int) (v vf : Value) (hg : JbAt w 1 0 noJ) (hv : RowSl Jb.vals w l v) (hf : RowSl nuV w fs vf) :
    Calls Tryd.prog 4 #[v, .int .i64 sp, vf, .int .i64 n] w fun r w' => r = .returned (.bool true) ∧ Below w.heap.size w w' := by
  obtain ⟨ad, c, rfl⟩ := hv.len
  obtain ⟨fad, fc, rfl⟩ := hf.len
  have HV : Hid (JbAt w 1 0 noJ ∧ RowSl Jb.vals w l (.slice ad l.length c) ∧ RowSl nuV w fs (.slice fad fs.length fc)) := ⟨hg, hv, hf⟩
  clear hg hv hf
  have HL := LendJ_any
  have HT := StillJ_any
  unfold Jb.val at HL HT
  go_enter Tryd.func4, Tryd.ntmps4
  go_wp2_with (go_at_call 5; refine (anew_any w).mono ?_; rintro r w1 ⟨rfl, hb1⟩; have H1 : Hid (Below w.heap.size w w1) := hb1; clear hb1)
  by_cases hl1 : l.length ≤ 5000
  · have hl1' : decide ((l.length : Int) ≤ 5000) = true := by simp; omega
    by_cases hf1 : fs.length ≤ 5000
    · have hf1' : decide ((fs.length : Int) ≤ 5000) = true := by simp; omega
      by_cases hs : smallB (l.length : Int) n = true
      · go_wp2_with (first | (go_at_call 6; refine (few_any _ _).mono ?_; rintro r w6 ⟨rfl, hw6⟩; have hw7 := hw6.symm; subst hw7; clear hw6; first | rw [hl1'] | rw [hf1']) | (go_at_call 11; refine (small_any _ _ _).mono ?_; rintro r w6 ⟨rfl, hw6⟩; have hw7 := hw6.symm; subst hw7; clear hw6; rw [hs]; obtain ⟨k0, k1, k2, k3, k4⟩ := HV.out.1.below H1.out))
        go_wp2_with (first | (go_at_call 12; refine (HL _ l noJ _ (by omega) (HV.out.2.1.below H1.out)).mono ?_; rintro r wa ⟨o1, rfl, hl9, hb9⟩; obtain ⟨p1, p2, p3, rfl, -⟩ := id hl9; have Ha : Hid (Below w.heap.size w wa ∧ Lent Jb.vals wa l noJ (.slice (some ⟨p1, p2, none⟩) l.length p3)) := ⟨below_seq H1.out hb9, hl9⟩; clear hl9 hb9 k0 k1 k2 k3 k4 H1 HL) | (go_at_call 13; refine (LendN_any _ fs (-9) _ (by omega) (HV.out.2.2.below Ha.out.1)).mono ?_; rintro r wb ⟨o2, rfl, hl9, hb9⟩; obtain ⟨q1, q2, q3, rfl, -⟩ := id hl9; have Hb : Hid (Below w.heap.size w wb ∧ Lent Jb.vals wb l noJ (.slice (some ⟨p1, p2, none⟩) l.length p3) ∧ Lent nuV wb fs (-9) (.slice (some ⟨q1, q2, none⟩) fs.length q3)) := ⟨below_seq Ha.out.1 hb9, Ha.out.2.below hb9, hl9⟩; clear hl9 hb9 Ha))
        have HP := PlayAnew_res wb l sp fs n _ _ (HV.out.2.1.below Hb.out.1) (HV.out.2.2.below Hb.out.1)
        go_wp2_with (go_at_call 14; refine HP.mono ?_; rintro r w2 ⟨v1, v2, z1, z2, rs, es, rfl, hpr, hrl, hel, hr1, hr2, hb2⟩; obtain ⟨a1, c1, rfl⟩ := hr1.len; obtain ⟨a2, c2, rfl⟩ := hr2.len; have H2 : Hid (RpRes l sp fs n z1 z2 rs es ∧ rs.length ≤ 1000000 ∧ es.length ≤ 1000000 ∧ RowSl nuV w2 rs (.slice a1 rs.length c1) ∧ RowSl nuV w2 es (.slice a2 es.length c2) ∧ Below wb.heap.size wb w2) := ⟨hpr, hrl, hel, hr1, hr2, hb2⟩; clear hpr hrl hel hr1 hr2 hb2 HP)
        have hx1 : ((w2.alloc (.cells #[.slice a1 rs.length c1, .slice a2 es.length c2] 43)).alloc (.cells #[.int .i64 z1, .int .i64 z2] 30)).heap[w2.heap.size]? = some (.cells [.slice a1 rs.length c1, .slice a2 es.length c2].toArray 43 (0, 0)) := (Below.heap_alloc _ _ _ (by simp)).trans (heap_alloc_new _ _)
        have hx2 : ((w2.alloc (.cells #[.slice a1 rs.length c1, .slice a2 es.length c2] 43)).alloc (.cells #[.int .i64 z1, .int .i64 z2] 30)).heap[w2.heap.size + 1]? = some (.cells [.int .i64 z1, .int .i64 z2].toArray 30 (0, 0)) := by
          have := heap_alloc_new (w2.alloc (.cells #[.slice a1 rs.length c1, .slice a2 es.length c2] 43)) (.cells #[.int .i64 z1, .int .i64 z2] 30)
          simpa using this
        have hb6 : Below w2.heap.size w2 ((w2.alloc (.cells #[.slice a1 rs.length c1, .slice a2 es.length c2] 43)).alloc (.cells #[.int .i64 z1, .int .i64 z2] 30)) := below_seq (below_new _ _) (below_new _ _)
        have hb7 : Below wb.heap.size wb ((w2.alloc (.cells #[.slice a1 rs.length c1, .slice a2 es.length c2] 43)).alloc (.cells #[.int .i64 z1, .int .i64 z2] 30)) := below_seq H2.out.2.2.2.2.2 hb6
        have Hc : Hid (PLL w ((w2.alloc (.cells #[.slice a1 rs.length c1, .slice a2 es.length c2] 43)).alloc (.cells #[.int .i64 z1, .int .i64 z2] 30)) l fs (.slice (some ⟨p1, p2, none⟩) l.length p3) (.slice (some ⟨q1, q2, none⟩) fs.length q3) w2.heap.size rs es (.slice a1 rs.length c1) (.slice a2 es.length c2) z1 z2) := ⟨below_seq Hb.out.1 hb7, Hb.out.2.1.below hb7, Hb.out.2.2.below hb7, hx1, hx2, H2.out.2.2.2.1.below hb6, H2.out.2.2.2.2.1.below hb6⟩
        have HN : Hid (rs.length ≤ 1000000 ∧ es.length ≤ 1000000 ∧ RpRes l sp fs n z1 z2 rs es) := ⟨H2.out.2.1, H2.out.2.2.1, H2.out.1⟩
        clear hx1 hx2 hb6 hb7 H2 Hb
        generalize ((w2.alloc (.cells #[.slice a1 rs.length c1, .slice a2 es.length c2] 43)).alloc (.cells #[.int .i64 z1, .int .i64 z2] 30)) = w5 at *
        generalize w2.heap.size = G at *
        go_loopw [47] (fun i W => ∃ j : Nat, j ≤ 2 ∧ i = .int .i64 j ∧ PLL w W l fs (.slice (some ⟨p1, p2, none⟩) l.length p3) (.slice (some ⟨q1, q2, none⟩) fs.length q3) G rs es (.slice a1 rs.length c1) (.slice a2 es.length c2) z1 z2) (fun i _ => 2 - (intOf i).toNat)
        case atStart => exact ⟨0, by omega, rfl, Hc.out⟩
        case round =>
          obtain ⟨j, hj, rfl, hpll⟩ := hrel
          have Hd : Hid (PLL w wr l fs (.slice (some ⟨p1, p2, none⟩) l.length p3) (.slice (some ⟨q1, q2, none⟩) fs.length q3) G rs es (.slice a1 rs.length c1) (.slice a2 es.length c2) z1 z2) := hpll
          clear hpll Hc
          by_cases hj2 : j < 2
          · have hji : (j : Int) < 2 := by omega
            have HP := PlayR_res wr l sp fs n _ _ Hd.out.jobs.plain Hd.out.flts.plain
            go_upto_region 10 with (go_at_call 15; refine HP.mono ?_; rintro r w4 ⟨v1, v2, y1, y2, rs', es', rfl, hpr, hres⟩; obtain ⟨q1, q2, q3, q4⟩ := rpRes_unique HN.out.2.2 hpr; subst q1 q2 q3 q4; obtain ⟨e1, f1, e2, f2, rfl, rfl⟩ := hres.slices; have H4 : Hid (Res wr w4 rs es (.slice e1 rs.length f1) (.slice e2 es.length f2)) := hres; clear hpr hres HP)
            have hx1 : ((w4.alloc (.cells #[.slice e1 rs.length f1, .slice e2 es.length f2] 43)).alloc (.cells #[.int .i64 z1, .int .i64 z2] 30)).heap[w4.heap.size]? = some (.cells [.slice e1 rs.length f1, .slice e2 es.length f2].toArray 43 (0, 0)) := (Below.heap_alloc _ _ _ (by simp)).trans (heap_alloc_new _ _)
            have hx2 : ((w4.alloc (.cells #[.slice e1 rs.length f1, .slice e2 es.length f2] 43)).alloc (.cells #[.int .i64 z1, .int .i64 z2] 30)).heap[w4.heap.size + 1]? = some (.cells [.int .i64 z1, .int .i64 z2].toArray 30 (0, 0)) := by
              have := heap_alloc_new (w4.alloc (.cells #[.slice e1 rs.length f1, .slice e2 es.length f2] 43)) (.cells #[.int .i64 z1, .int .i64 z2] 30)
              simpa using this
            obtain ⟨p1, p2, hrn⟩ := RND.start H4.out (below_seq (below_new _ _) (below_new _ _)) hx1
            have hpl := Hd.out.grow hrn.bel
            have n0 := (cells_of hx1).1 0 _ rfl
            have n1 := (cells_of hx1).1 1 _ rfl
            have m0 := (cells_of hx2).1 0 _ rfl
            have m1 := (cells_of hx2).1 1 _ rfl
            have s0 := (cells_of hpl.c1).1 0 _ rfl
            have s1 := (cells_of hpl.c1).1 1 _ rfl
            have t0 := (cells_of hpl.c2).1 0 _ rfl
            have t1 := (cells_of hpl.c2).1 1 _ rfl
            have HS := SameP_any _ rs es _ _ _ _ HN.out.1 HN.out.2.1 hrn.r1.row hrn.r2.row hpl.r1 hpl.r2
            have HR : Hid (RND wr ((w4.alloc (.cells #[.slice e1 rs.length f1, .slice e2 es.length f2] 43)).alloc (.cells #[.int .i64 z1, .int .i64 z2] 30)) w4.heap.size rs es (.slice e1 rs.length f1) (.slice e2 es.length f2) p1 p2) := hrn
            clear hx1 hx2 hrn hpl H4
            generalize ((w4.alloc (.cells #[.slice e1 rs.length f1, .slice e2 es.length f2] 43)).alloc (.cells #[.int .i64 z1, .int .i64 z2] 30)) = w5b at *
            generalize w4.heap.size = D at *
            go_wp2_with (go_at_call 16; refine HS.mono ?_; rintro r w6 ⟨rfl, hb6⟩; have H6 : Hid (RND wr w6 D rs es (.slice e1 rs.length f1) (.slice e2 es.length f2) p1 p2) := HR.out.grow hb6; obtain ⟨k0, k1, k2, k3, k4⟩ := HV.out.1.below (Hd.out.grow H6.out.bel).bel; clear hb6 HS HR n0 n1 m0 m1 s0 s1 t0 t1)
            go_wp2_with (go_at_call 17; refine (HT _ l noJ _ _ (by omega) (Hd.out.grow H6.out.bel).jobs (HV.out.2.1.below (Hd.out.grow H6.out.bel).bel)).mono ?_; rintro r w7 ⟨rfl, hb7⟩; have H7 : Hid (RND wr w7 D rs es (.slice e1 rs.length f1) (.slice e2 es.length f2) p1 p2) := H6.out.grow hb7; clear hb7 H6 k0 k1 k2 k3 k4)
            go_wp2_with (go_at_call 18; refine (StillN_any _ fs (-9) _ _ (by omega) (Hd.out.grow H7.out.bel).flts (HV.out.2.2.below (Hd.out.grow H7.out.bel).bel)).mono ?_; rintro r w7b ⟨rfl, hb7⟩; have H7b : Hid (RND wr w7b D rs es (.slice e1 rs.length f1) (.slice e2 es.length f2) p1 p2) := H7.out.grow hb7; have n0 := (cells_of H7b.out.d1).1 0 _ rfl; clear hb7 H7)
            have PH : Phase 1 := trivial
            go_wp2_with (go_at_call 19; guard_hyp PH : Phase 1; clear PH; refine (Spoil_row _ _ rs _ p1 H7b.out.r1).mono ?_; rintro r w8 ⟨rfl, hg8⟩; have H8 : Hid (RN2 wr w8 D es (.slice e1 rs.length f1) (.slice e2 es.length f2) p2) := H7b.out.spoil hg8; have n1 := (cells_of H8.out.d1).1 1 _ rfl; clear hg8 H7b n0)
            have PH : Phase 2 := trivial
            go_wp2_with (go_at_call 19; guard_hyp PH : Phase 2; clear PH; refine (Spoil_row _ _ es _ p2 H8.out.r2).mono ?_; rintro r w10 ⟨rfl, hg10⟩; have H10 := Hd.out.grow (H8.out.spoil hg10); have H11 : Hid (PLL w w10 l fs _ _ G rs es (.slice a1 rs.length c1) (.slice a2 es.length c2) z1 z2) := H10; clear hg10 H8 n1 H10)
            exact ⟨⟨j + 1, by omega, by simp, H11.out⟩, by simp [intOf]; omega⟩
          · have hje : j = 2 := by omega
            subst hje
            go_wp2_with fail
            go_ret
            exact ⟨rfl, Hd.out.bel⟩
      · have hs' : smallB (l.length : Int) n = false := by simpa using hs
        go_wp2_with (first | (go_at_call 6; refine (few_any _ _).mono ?_; rintro r w6 ⟨rfl, hw6⟩; have hw7 := hw6.symm; subst hw7; clear hw6; first | rw [hl1'] | rw [hf1']) | (go_at_call 11; refine (small_any _ _ _).mono ?_; rintro r w6 ⟨rfl, hw6⟩; have hw7 := hw6.symm; subst hw7; clear hw6; rw [hs']))
        go_ret
        exact ⟨rfl, H1.out⟩
    · have hf1' : decide ((fs.length : Int) ≤ 5000) = false := by simp; omega
      go_wp2_with (go_at_call 6; refine (few_any _ _).mono ?_; rintro r w6 ⟨rfl, hw6⟩; have hw7 := hw6.symm; subst hw7; clear hw6; first | rw [hl1'] | rw [hf1'])
      go_ret
      exact ⟨rfl, H1.out⟩
  · have hl1' : decide ((l.length : Int) ≤ 5000) = false := by simp; omega
    go_wp2_with (go_at_call 6; refine (few_any _ _).mono ?_; rintro r w6 ⟨rfl, hw6⟩; have hw7 := hw6.symm; subst hw7; clear hw6; rw [hl1'])
    go_ret
    exact ⟨rfl, H1.out⟩
end Go.Proofs.YtekbkcgpjkecbalDoor.S8
namespace Go.Proofs.YtekbkcgpjkecbalDoor.S8
open Go.ChangeShapes Go.WideShapes Go.ChangeAt Go.RowKit

theorem cells3 : Tryd.prog.cellsOf 3 = 1 := by kernel_rfl
theorem cells36 : Tryd.prog.cellsOf 40 = 5 := by kernel_rfl

section
variable {H : Type} {enc : TypeId × Value → H} {w : World} {sp : Nat → Bool} {held : Bool}

/-- A cell that is there lies at a plain address. -/
theorem plain_addr {w : World} {a : Addr} {v : Value} (h : w.cell? a = some v) : a = ⟨a.block, a.off, none⟩ := by
  obtain ⟨b, o, s⟩ := a
  cases s with
  | none => rfl
  | some x =>
    exfalso
    unfold World.cell? at h
    simp at h
    split at h <;> simp_all

theorem add_plain' (g o n : Nat) : (⟨g, o, none⟩ : Addr).add n = ⟨g, o + n, none⟩ := by
  unfold Addr.add
  by_cases h : n = 0
  · subst h; rfl
  · simp [h]

theorem cells_at {g o n : Nat} {cs : List Value} (h : w.cells? 0 ⟨g, o, none⟩ n = some cs) : cs.length = n ∧ ∀ i, i < n → w.cell? ⟨g, o + i, none⟩ = cs[i]? := by
  obtain ⟨-, h1, h2⟩ := World.cells?_some h
  refine ⟨h1, fun i hi => ?_⟩
  rw [← h2 i hi, add_plain']

/-- A job that can be read. -/
theorem jb_one {n : Nat} {cs : List Value} {y : DataW H × List MemPlace} (hl : cs.length = 5) (h : DataW.trod enc Tryd.prog w 0 sp held n 40 cs = some y) : ∃ x : Jb, cs = x.vals ∧ y.1 = .agg [.lit (.int .i64 x.k), .lit (.int .i64 x.a), .lit (.int .i64 x.c), .lit (.int .i64 x.d), .lit (.int .i64 x.p)] := by
  match cs, hl with
  | [c0, c1, c2, c3, c4], _ =>
    obtain ⟨xs, n1, rfl, hy, -, hlen, hf⟩ := DataW.trod_struct Tryd.underlying40 h
    match xs, hlen with
    | [y0, y1, y2, y3, y4], _ =>
      have f0 : DataW.trod enc Tryd.prog w 0 sp held n1 3 ((([c0, c1, c2, c3, c4] : List Value).drop 0).take (Tryd.prog.cellsOf 3)) = some y0 := hf 0 _ rfl
      have f1 : DataW.trod enc Tryd.prog w 0 sp held n1 3 ((([c0, c1, c2, c3, c4] : List Value).drop 1).take (Tryd.prog.cellsOf 3)) = some y1 := hf 1 _ rfl
      have f2 : DataW.trod enc Tryd.prog w 0 sp held n1 3 ((([c0, c1, c2, c3, c4] : List Value).drop 2).take (Tryd.prog.cellsOf 3)) = some y2 := hf 2 _ rfl
      have f3 : DataW.trod enc Tryd.prog w 0 sp held n1 3 ((([c0, c1, c2, c3, c4] : List Value).drop 3).take (Tryd.prog.cellsOf 3)) = some y3 := hf 3 _ rfl
      have f4 : DataW.trod enc Tryd.prog w 0 sp held n1 3 ((([c0, c1, c2, c3, c4] : List Value).drop 4).take (Tryd.prog.cellsOf 3)) = some y4 := hf 4 _ rfl
      rw [cells3] at f0 f1 f2 f3 f4
      obtain ⟨k0, e0, g0, -⟩ := DataW.trod_int Tryd.underlying3 (show DataW.trod enc Tryd.prog w 0 sp held n1 3 [c0] = some y0 from f0)
      obtain ⟨k1, e1, g1, -⟩ := DataW.trod_int Tryd.underlying3 (show DataW.trod enc Tryd.prog w 0 sp held n1 3 [c1] = some y1 from f1)
      obtain ⟨k2, e2, g2, -⟩ := DataW.trod_int Tryd.underlying3 (show DataW.trod enc Tryd.prog w 0 sp held n1 3 [c2] = some y2 from f2)
      obtain ⟨k3, e3, g3, -⟩ := DataW.trod_int Tryd.underlying3 (show DataW.trod enc Tryd.prog w 0 sp held n1 3 [c3] = some y3 from f3)
      obtain ⟨k4, e4, g4, -⟩ := DataW.trod_int Tryd.underlying3 (show DataW.trod enc Tryd.prog w 0 sp held n1 3 [c4] = some y4 from f4)
      simp only [List.cons.injEq, and_true] at e0 e1 e2 e3 e4
      refine ⟨⟨k0, k1, k2, k3, k4⟩, by rw [e0, e1, e2, e3, e4]; rfl, ?_⟩
      rw [hy, g0, g1, g2, g3, g4]
      rfl

theorem jb_row {n : Nat} (g : Nat) : ∀ (elems : List (DataW H × List MemPlace)) (o : Nat),
    (∀ i, i < elems.length → (w.cells? 0 ⟨g, o + i * 5, none⟩ 5).bind (DataW.trod enc Tryd.prog w 0 sp held n 40) = elems[i]?) →
    ∃ l : List Jb, l.length = elems.length ∧ ∀ q u, (l.flatMap Jb.vals)[q]? = some u → w.cell? ⟨g, o + q, none⟩ = some u
  | [], o, _ => ⟨[], rfl, fun q u hq => by simp at hq⟩
  | y :: r, o, h => by
    have h0 := h 0 (by simp)
    simp only [Nat.zero_mul, Nat.add_zero, List.getElem?_cons_zero] at h0
    obtain ⟨cs, hc, ht⟩ := Option.bind_eq_some_iff.1 h0
    obtain ⟨hlen, hcell⟩ := cells_at hc
    obtain ⟨x, rfl, -⟩ := jb_one hlen ht
    obtain ⟨l, hl, hrow⟩ := jb_row g r (o + 5) (fun i hi => by
      have := h (i + 1) (by simp; omega)
      rw [show o + (i + 1) * 5 = o + 5 + i * 5 by omega] at this
      simpa using this)
    refine ⟨x :: l, by simp [hl], fun q u hq => ?_⟩
    · rw [List.flatMap_cons] at hq
      by_cases h7 : q < 5
      · rw [List.getElem?_append_left (by rw [Jb.len]; exact h7)] at hq
        rw [hcell q h7]
        exact hq
      · rw [List.getElem?_append_right (by rw [Jb.len]; omega), Jb.len] at hq
        have := hrow (q - 5) u hq
        rw [show o + 5 + (q - 5) = o + q by omega] at this
        exact this

/-- A slice of jobs that can be read. -/
theorem jbSl_of_trod {ad : Option Addr} {n c : Nat} {d : DataW H} {ps : List MemPlace} (h : DataW.Trod enc Tryd.prog w 0 sp held 35 (.slice ad n c) d ps) : ∃ l : List Jb, n = l.length ∧ RowSl Jb.vals w l (.slice ad n c) := by
  obtain ⟨q, hq⟩ := h
  have hcs : (Value.slice ad n c).cells.toList = [.slice ad n c] := rfl
  rw [hcs] at hq
  rcases DataW.trod_slice Tryd.underlying35 hq with ⟨h1, -⟩ | ⟨a, len, cap, elems, rest, n2, -, h1, -, -, hlc, -, hle, hel, -, -⟩
  · simp only [List.cons.injEq, and_true, Value.slice.injEq] at h1
    obtain ⟨rfl, rfl, rfl⟩ := h1
    exact ⟨[], rfl, RowSl.nil _ _⟩
  · simp only [List.cons.injEq, and_true, Value.slice.injEq] at h1
    obtain ⟨rfl, rfl, rfl⟩ := h1
    subst hle
    simp only [cells36] at hel
    cases elems with
    | nil => exact ⟨[], rfl, ⟨_, _, rfl, (fun e => by cases e), Nat.zero_le _, .inl rfl⟩⟩
    | cons z r =>
      have hz := hel 0 (by simp)
      obtain ⟨cs0, hc0, ht0⟩ := Option.bind_eq_some_iff.1 hz
      obtain ⟨-, hlen0, hpl⟩ := World.cells?_some hc0
      obtain ⟨x, rfl, -⟩ := jb_one hlen0 (by simpa using ht0)
      have hpa := plain_addr (w := w) (a := a) (v := .int .i64 x.k) (by simpa [Addr.add, Jb.vals] using hpl 0 (by omega))
      obtain ⟨l, hl, hrow⟩ := jb_row (n := n2) a.block (z :: r) a.off (fun i hi => by
        have := hel i hi
        rw [hpa, add_plain'] at this
        exact this)
      exact ⟨l, hl.symm, ⟨some a, c, by rw [hl], (fun e => by cases e), by omega, .inr ⟨a.block, a.off, by rw [← hpa], hrow⟩⟩⟩

/-- A number that can be read. -/
theorem nu_one {n : Nat} {cs : List Value} {y : DataW H × List MemPlace} (h : DataW.trod enc Tryd.prog w 0 sp held n 3 cs = some y) : ∃ x : Int, cs = nuV x := by
  obtain ⟨k0, e0, -, -⟩ := DataW.trod_int Tryd.underlying3 h
  exact ⟨k0, e0⟩

theorem nu_row {n : Nat} (g : Nat) : ∀ (elems : List (DataW H × List MemPlace)) (o : Nat),
    (∀ i, i < elems.length → (w.cells? 0 ⟨g, o + i * 1, none⟩ 1).bind (DataW.trod enc Tryd.prog w 0 sp held n 3) = elems[i]?) →
    ∃ l : List Int, l.length = elems.length ∧ ∀ q u, (l.flatMap nuV)[q]? = some u → w.cell? ⟨g, o + q, none⟩ = some u
  | [], o, _ => ⟨[], rfl, fun q u hq => by simp at hq⟩
  | y :: r, o, h => by
    have h0 := h 0 (by simp)
    simp only [Nat.zero_mul, Nat.add_zero, List.getElem?_cons_zero] at h0
    obtain ⟨cs, hc, ht⟩ := Option.bind_eq_some_iff.1 h0
    obtain ⟨hlen, hcell⟩ := cells_at hc
    obtain ⟨x, rfl⟩ := nu_one ht
    obtain ⟨l, hl, hrow⟩ := nu_row g r (o + 1) (fun i hi => by
      have := h (i + 1) (by simp; omega)
      rw [show o + (i + 1) * 1 = o + 1 + i * 1 by omega] at this
      simpa using this)
    refine ⟨x :: l, by simp [hl], fun q u hq => ?_⟩
    · rw [List.flatMap_cons] at hq
      by_cases h7 : q < 1
      · rw [List.getElem?_append_left (by rw [nuV_len]; exact h7)] at hq
        rw [hcell q h7]
        exact hq
      · rw [List.getElem?_append_right (by rw [nuV_len]; omega), nuV_len] at hq
        have := hrow (q - 1) u hq
        rw [show o + 1 + (q - 1) = o + q by omega] at this
        exact this

/-- A slice of numbers that can be read. -/
theorem nuSl_of_trod {ad : Option Addr} {n c : Nat} {d : DataW H} {ps : List MemPlace} (h : DataW.Trod enc Tryd.prog w 0 sp held 36 (.slice ad n c) d ps) : ∃ l : List Int, n = l.length ∧ RowSl nuV w l (.slice ad n c) := by
  obtain ⟨q, hq⟩ := h
  have hcs : (Value.slice ad n c).cells.toList = [.slice ad n c] := rfl
  rw [hcs] at hq
  rcases DataW.trod_slice Tryd.underlying36 hq with ⟨h1, -⟩ | ⟨a, len, cap, elems, rest, n2, -, h1, -, -, hlc, -, hle, hel, -, -⟩
  · simp only [List.cons.injEq, and_true, Value.slice.injEq] at h1
    obtain ⟨rfl, rfl, rfl⟩ := h1
    exact ⟨[], rfl, RowSl.nil _ _⟩
  · simp only [List.cons.injEq, and_true, Value.slice.injEq] at h1
    obtain ⟨rfl, rfl, rfl⟩ := h1
    subst hle
    simp only [cells3] at hel
    cases elems with
    | nil => exact ⟨[], rfl, ⟨_, _, rfl, (fun e => by cases e), Nat.zero_le _, .inl rfl⟩⟩
    | cons z r =>
      have hz := hel 0 (by simp)
      obtain ⟨cs0, hc0, ht0⟩ := Option.bind_eq_some_iff.1 hz
      obtain ⟨-, hlen0, hpl⟩ := World.cells?_some hc0
      obtain ⟨x, rfl⟩ := nu_one (by simpa using ht0)
      have hpa := plain_addr (w := w) (a := a) (v := .int .i64 x) (by simpa [Addr.add, nuV] using hpl 0 (by omega))
      obtain ⟨l, hl, hrow⟩ := nu_row (n := n2) a.block (z :: r) a.off (fun i hi => by
        have := hel i hi
        rw [hpa, add_plain'] at this
        exact this)
      exact ⟨l, hl.symm, ⟨some a, c, by rw [hl], (fun e => by cases e), by omega, .inr ⟨a.block, a.off, by rw [← hpa], hrow⟩⟩⟩
end

theorem gNoJob : Tryd.prog.globalNamed "punctual/punctuallaw.noJob" = some 1 := by kernel_rfl
theorem tNoJob : (Tryd.prog.globals[1]?).map (·.type) = some 40 := by kernel_rfl

theorem jbvals_of {x y : Jb} (h : (DataW.agg [.lit (.int .i64 x.k), .lit (.int .i64 x.a), .lit (.int .i64 x.c), .lit (.int .i64 x.d), .lit (.int .i64 x.p)] : DataW Unit) = .agg [.lit (.int .i64 y.k), .lit (.int .i64 y.a), .lit (.int .i64 y.c), .lit (.int .i64 y.d), .lit (.int .i64 y.p)]) : x = y := by
  obtain ⟨x0, x1, x2, x3, x4⟩ := x
  obtain ⟨y0, y1, y2, y3, y4⟩ := y
  simp only [DataW.agg.injEq, List.cons.injEq, DataW.lit.injEq, Lit.int.injEq, true_and, and_true] at h
  obtain ⟨rfl, rfl, rfl, rfl, rfl⟩ := h
  rfl

/-- What the listed variable holds. -/
theorem of_laid {W : World} (h : laidMetH Tryd.prog Rows.redoPlaysRow.laid W) : JbAt W 1 0 noJ := by
  rw [MakeChecks.laidMetH_plain _ _ _ (by kernel_rfl)] at h
  obtain ⟨ps, ⟨g0, t0, cs0, f0, p0, q0, hg0, ht0, hv0, hd0, _, _⟩, _, _⟩ := h
  obtain rfl := Option.some.inj (gNoJob.symm.trans hg0)
  obtain rfl := Option.some.inj (tNoJob.symm.trans ht0)
  have c0 : ∀ j, W.cell? ⟨1, j, none⟩ = cs0[j]? := World.var?_cell hg0 hv0
  have hlen : cs0.toList.length = 5 := by
    obtain ⟨xs, n1, -, -, hl, -⟩ := DataW.trod_struct Tryd.underlying40 hd0
    rw [hl, cells36]
  obtain ⟨x, hx, hy⟩ := jb_one hlen hd0
  have hxe : x = noJ := jbvals_of (hy.symm.trans rfl)
  subst hxe
  have key : ∀ k u, noJ.vals[k]? = some u → W.cell? ⟨1, k, none⟩ = some u := fun k u hu => by
    rw [c0, ← Array.getElem?_toList, hx]; exact hu
  exact ⟨key 0 _ rfl, key 1 _ rfl, key 2 _ rfl, key 3 _ rfl, key 4 _ rfl⟩

theorem own : ownKnob Tryd.prog.godebug = none := by kernel_rfl
theorem laidOut : laidOutB Tryd.prog = true := by kernel_rfl

/-- A world for the witness: the settled one, the variable holding what its initialiser lays. -/
def laidHeap (h : Array Obj) : Array Obj := h.modify 1 fun
  | .cells _ t frozen => .cells #[.int .i64 (-9), .int .i64 0, .int .i64 0, .int .i64 0, .int .i64 0] t frozen
  | o => o

end Go.Proofs.YtekbkcgpjkecbalDoor.S8
namespace Go.Proofs.YtekbkcgpjkecbalDoor
open Go.ChangeShapes Go.WideShapes Go.ChangeAt Go.RowKit S8

theorem reads3 : Tryd.prog.readableRec 3 = true := by kernel_rfl
theorem lt3 : 3 < Tryd.prog.types.size := of_decide_eq_true (by kernel_rfl)
theorem reads35 : Tryd.prog.readableRec 35 = true := by kernel_rfl
theorem lt35 : 35 < Tryd.prog.types.size := of_decide_eq_true (by kernel_rfl)
theorem reads36 : Tryd.prog.readableRec 36 = true := by kernel_rfl
theorem lt36 : 36 < Tryd.prog.types.size := of_decide_eq_true (by kernel_rfl)

set_option maxRecDepth 20000 in
theorem contractR (H : Type) (enc : TypeId × Value → H) (W : World) (base : Nat) (args : Array Value) (ds gs : List (DataW H)) (before : List MemPlace)
    (hval : ∀ (j : Nat) t v, Tryd.f4.params[j]? = some t → args[j]? = some v → Value.okWide Tryd.prog W .any base t v)
    (hW : DataW.Whole enc Tryd.prog Tryd.f4.params.toList Rows.redoPlaysSpec.vars false W args.toList ds gs before) (hL : laidMetH Tryd.prog Rows.redoPlaysRow.laid W) :
    Calls Tryd.prog 4 args W fun e W' => ∃ v, e = .returned v ∧ Rows.redoPlaysSpec.post enc Tryd.prog Tryd.f4 false true false false W args v W' := by
  have hW' := hW
  obtain ⟨p, q, hA0, hV, rfl, hfz, hnd⟩ := hW
  have hA : DataW.TrodAll enc Tryd.prog W 0 (fun _ => true) true Tryd.f4.params.toList args.toList ds p := hA0
  rw [Tryd.params4] at hA hval
  obtain ⟨v0, vs0, d0, ds0, p0, q0, hargs0, rfl, rfl, h0, r0⟩ := trodAll_cons hA
  obtain ⟨v1, vs1, d1, ds1, p1, q1, hargs1, rfl, rfl, h1, r1⟩ := trodAll_cons r0
  obtain ⟨v2, vs2, d2, ds2, p2, q2, hargs2, rfl, rfl, h2, r2⟩ := trodAll_cons r1
  obtain ⟨v3, vs3, d3, ds3, p3, q3, hargs3, rfl, rfl, h3, r3⟩ := trodAll_cons r2
  obtain ⟨rfl, rfl, rfl⟩ := trodAll_nil r3
  obtain rfl : args = #[v0, v1, v2, v3] := Array.toList_inj.1 (by rw [hargs0, hargs1, hargs2, hargs3])
  obtain ⟨rfl, rfl⟩ := trodVars_none hV
  obtain ⟨ad0, len0, cap0, rfl⟩ := okWide_slice Tryd.underlying35 (hval 0 35 v0 (by simp) (by simp))
  obtain ⟨n1, rfl⟩ := okWide_int Tryd.underlying3 (hval 1 3 v1 (by simp) (by simp))
  obtain ⟨ad2, len2, cap2, rfl⟩ := okWide_slice Tryd.underlying36 (hval 2 36 v2 (by simp) (by simp))
  obtain ⟨n3, rfl⟩ := okWide_int Tryd.underlying3 (hval 3 3 v3 (by simp) (by simp))
  clear hA0 hargs0 hargs1 hargs2 hargs3
  simp only [List.append_nil] at hW'
  obtain ⟨l, rfl, hsl⟩ := S8.jbSl_of_trod h0
  obtain ⟨fs, rfl, hfl⟩ := S8.nuSl_of_trod h2
  refine (S8.rp_walk W l n1 fs n3 _ _ (S8.of_laid hL) hsl hfl).mono fun e W' ⟨he, hbel⟩ => ?_
  subst he
  have hlt0 : ∀ x ∈ p0, x.block < W.heap.size := fun x hx => by
    obtain ⟨n, hn⟩ := h0
    exact DataW.trod_lt n _ _ _ hn x hx
  have hlt1 : ∀ x ∈ p1, x.block < W.heap.size := fun x hx => by
    obtain ⟨n, hn⟩ := h1
    exact DataW.trod_lt n _ _ _ hn x hx
  have hlt2 : ∀ x ∈ p2, x.block < W.heap.size := fun x hx => by
    obtain ⟨n, hn⟩ := h2
    exact DataW.trod_lt n _ _ _ hn x hx
  have hlt3 : ∀ x ∈ p3, x.block < W.heap.size := fun x hx => by
    obtain ⟨n, hn⟩ := h3
    exact DataW.trod_lt n _ _ _ hn x hx
  refine ⟨_, rfl, [d0, d1, d2, d3], [], p0 ++ (p1 ++ (p2 ++ p3)), [], p0 ++ (p1 ++ (p2 ++ p3)), [], hW', trodAll_mk1 (shut_bool Tryd.underlying4 _), ?_, rfl, hbel.frame _, fun h => by cases h⟩
  have s0 := WideElems.Trod_stays (W' := W') (sp' := fun b => decide (b < W.heap.size)) S8.laidOut reads35 lt35 h0 (fun x hx => hbel.same (hlt0 x hx)) (fun x hx => by simpa using hlt0 x hx)
  have s1 := WideElems.Trod_stays (W' := W') (sp' := fun b => decide (b < W.heap.size)) S8.laidOut reads3 lt3 h1 (fun x hx => hbel.same (hlt1 x hx)) (fun x hx => by simpa using hlt1 x hx)
  have s2 := WideElems.Trod_stays (W' := W') (sp' := fun b => decide (b < W.heap.size)) S8.laidOut reads36 lt36 h2 (fun x hx => hbel.same (hlt2 x hx)) (fun x hx => by simpa using hlt2 x hx)
  have s3 := WideElems.Trod_stays (W' := W') (sp' := fun b => decide (b < W.heap.size)) S8.laidOut reads3 lt3 h3 (fun x hx => hbel.same (hlt3 x hx)) (fun x hx => by simpa using hlt3 x hx)
  have e1 := trodAll_cons_mk s0 (trodAll_cons_mk s1 (trodAll_cons_mk s2 (trodAll_cons_mk s3 (trodAll_mk0 (enc := enc) (P := Tryd.prog) (w := W') (base := 0) (spare := fun b => decide (b < W.heap.size)) (held := true)))))
  rw [List.append_nil] at e1
  exact e1

theorem laid_metR (os : Os) : laidMet Tryd.prog Rows.redoPlaysRow.laid (({ World.holding Tryd.prog os ⟨#[], #[], []⟩ with heap := S8.laidHeap (World.holding Tryd.prog os ⟨#[], #[], []⟩).heap } : World).forCall (fun _ _ => 0) ⟨#[], #[.slice none 0 0, .int .i64 0, .slice none 0 0, .int .i64 0], []⟩).memory :=
  laidMet_of_run' 8 (by kernel_rfl) (by kernel_rfl)
theorem readsR (os : Os) {H : Type} (enc : TypeId × Value → H) : ∃ places, DataW.whole enc Tryd.prog (({ World.holding Tryd.prog os ⟨#[], #[], []⟩ with heap := S8.laidHeap (World.holding Tryd.prog os ⟨#[], #[], []⟩).heap } : World).forCall (fun _ _ => 0) ⟨#[], #[.slice none 0 0, .int .i64 0, .slice none 0 0, .int .i64 0], []⟩).memory Tryd.f4.params.toList Rows.redoPlaysSpec.vars false #[Value.slice none 0 0, .int .i64 0, .slice none 0 0, .int .i64 0].toList 8 = some ([.nil, .lit (.int .i64 0), .nil, .lit (.int .i64 0)], [], places) :=
  ⟨[], by kernel_rfl⟩

set_option maxRecDepth 100000 in
theorem liftedR (os : Os) (started : os.Started) (H : Type) (enc : TypeId × Value → H) (F : Stop.Interp) :
    ReturnsInHanded {} Tryd.checked os 4 .any ((OpenSpec.ofChange Rows.redoPlaysSpec).preRow enc Tryd.prog Tryd.f4 Rows.redoPlaysRow.domain false Rows.redoPlaysRow.laid) (((OpenSpec.ofChange Rows.redoPlaysSpec).at F).post enc Tryd.prog Tryd.f4 false true false false) := by
  obtain ⟨places, hx⟩ := readsR os enc
  refine returnsInHanded_of_row (C := Tryd.checked) (s := OpenSpec.ofChange Rows.redoPlaysSpec) S8.own started (by kernel_rfl) Tryd.func4
    (witness_row_at (enc := enc) (C := Tryd.checked) false ({ World.holding Tryd.prog os ⟨#[], #[], []⟩ with heap := S8.laidHeap (World.holding Tryd.prog os ⟨#[], #[], []⟩).heap } : World) #[.slice none 0 0, .int .i64 0, .slice none 0 0, .int .i64 0] rfl (by kernel_rfl) (by kernel_rfl) (by kernel_rfl)
      (OpenSpec.preRow_of_cond 8 hx (by kernel_rfl) (fun k hk => by cases hk) (by kernel_rfl) (laid_metR os))) ?_
  intro W base args ds gs before hval hW _ _ _ hL _ _
  exact contractR H enc W base args ds gs before hval hW hL

theorem saidR : Rows.RedoPlaysSaid :=
  OpenClaim.holds_of_cond 4 Tryd.f4 rfl rfl rfl rfl rfl rfl rfl ⟨rfl, rfl, rfl, rfl, rfl⟩ rfl rfl rfl rfl rfl (by kernel_rfl) Tryd.func4 (by kernel_rfl)
    (of_decide_eq_true (by kernel_rfl)) (by unfold Func.isWrapper; first | (rw [if_pos (by decide +kernel)]; kernel_rfl) | (rw [if_neg (by decide +kernel)]; exact ⟨rfl, rfl⟩))
    (fun os started H enc _ F => by rw [OpenClaim.pre_eq_preRow]; exact liftedR os started H enc F)

/-- No parameter wants a stand-in; the program's own looks. -/
theorem standlessR (f : FuncId) (fn : Func) (hf : Tryd.pinned.checked.prog.funcNamed "punctual/punctuallaw.RedoPlays" = some f) (hfn : Tryd.pinned.checked.prog.funcs[f]? = some fn) :
    false = Tryd.pinned.checked.prog.looks [] ∧ ∀ (j : Nat) t, fn.params[j]? = some t → Tryd.pinned.checked.prog.wantsStandIn t = false := by
  obtain rfl : f = 4 := Option.some.inj ((show Tryd.prog.funcNamed "punctual/punctuallaw.RedoPlays" = some 4 by kernel_rfl).symm.trans hf) |>.symm
  obtain rfl : fn = Tryd.f4 := (Option.some.inj (Tryd.func4.symm.trans hfn)).symm
  refine ⟨by kernel_rfl, fun j t ht => ?_⟩
  rw [Tryd.params4] at ht
  have h : t = 35 ∨ t = 3 ∨ t = 36 := by
    have := Array.mem_of_getElem? ht
    simp at this
    first | exact this | omega | (rcases this with h | h | h | h <;> simp [h])
  rcases h with rfl | rfl | rfl
  · exact (show Tryd.prog.wantsStandIn 35 = false by kernel_rfl)
  · exact (show Tryd.prog.wantsStandIn 3 = false by kernel_rfl)
  · exact (show Tryd.prog.wantsStandIn 36 = false by kernel_rfl)

theorem redoPlays_card : Rows.RedoPlaysCardSaid :=
  Claim7.holds_tied_plain_at .later [] _ _ _ _ saidR (fun _ h => by cases h) (by kernel_rfl) (fun _ h => by cases h) redoPlays_row_tie rfl ⟨rfl, rfl⟩ (by kernel_rfl) rfl standlessR (by kernel_rfl)
end Go.Proofs.YtekbkcgpjkecbalDoor
