import Derived.Test.YtekbkcgpjkecbalDoorZC3
import Derived.Test.YtekbkcgpjkecbalDoorZD3
import Derived.Test.YtekbkcgpjkecbalDoorXS
import Derived.Test.YtekbkcgpjkecbalDoorTT
namespace Go.Proofs.YtekbkcgpjkecbalDoor.S8
open Go.ChangeShapes Go.WideShapes Go.ChangeAt Go.RowKit Go.Sort

/- One job alone. -/
theorem isBest_one (x : Jb) (left : List Int) (t : Int) : IsBest [x] 1 left t (if x.a ≤ t ∧ 0 < L left 0 then 0 else -1) := by
  by_cases h : x.a ≤ t ∧ 0 < L left 0
  · rw [if_pos h]
    refine .inr ⟨0, rfl, by simp, h.1, h.2, fun j hj _ _ hne => ?_⟩
    simp at hj
    exact absurd hj hne
  · rw [if_neg h]
    refine .inl ⟨rfl, fun i hi => ?_⟩
    simp at hi
    subst hi
    exact h

def runR1 (x : Jb) (sp : Int) (fa : Nat → Bool) : Nat → StR
  | 0 => StR.init [x]
  | t + 1 => (runR1 x sp fa t).after sp (fa t) t (if x.a ≤ (t : Int) ∧ 0 < L (runR1 x sp fa t).s.left 0 then 0 else -1)

theorem runR1_plays (x : Jb) (sp : Int) (fa : Nat → Bool) : ∀ t, PlaysR [x] sp fa t (runR1 x sp fa t)
  | 0 => rfl
  | t + 1 => ⟨runR1 x sp fa t, _, runR1_plays x sp fa t, isBest_one x _ _, rfl⟩

def jobA : Jb := ⟨0, 0, 4, 9, 1⟩

theorem anew_1 {q : StR} (h : PlaysR [jobA] 2 (fun t => decide ((t : Int) ∈ [(1 : Int), 3])) 9 q) : q.s.runs = [0, 0, 0, 0, 0, 0, 0, 0, -1] ∧ q.s.ends = [8] := by
  rw [playsR_unique 9 q _ h (runR1_plays jobA 2 (fun t => decide ((t : Int) ∈ [(1 : Int), 3])) 9)]
  exact ⟨by kernel_rfl, by kernel_rfl⟩

theorem anew_2 {q : StR} (h : PlaysR [jobA] 0 (fun t => decide ((t : Int) ∈ [(2 : Int)])) 9 q) : q.s.ends = [7] := by
  rw [playsR_unique 9 q _ h (runR1_plays jobA 0 (fun t => decide ((t : Int) ∈ [(2 : Int)])) 9)]
  kernel_rfl

theorem anew_len {sp : Int} {fa : Nat → Bool} {q : StR} (h : PlaysR [jobA] sp fa 9 q) : 9 = q.s.runs.length := by
  have hok : ∀ x ∈ [jobA], okJ x := by
    intro x hx
    simp at hx
    subst hx
    unfold okJ jobA
    decide
  exact (playsR_ok hok 9 q h).ok.runs.symm

theorem anew_3 : rdF threeL 1 100 0 = (6, (0, 0)) := by kernel_rfl

theorem anew_c1 : (chkR [jobA] 2 [1, 3] ((9 : Nat) : Int)).1 = 0 := by kernel_rfl
theorem anew_c2 : (chkR [jobA] 0 [2] ((9 : Nat) : Int)).1 = 0 := by kernel_rfl

/-- A block of numbers is a row of them. -/
theorem row_of {W : World} {g n : Nat} {l : List Int} (h : W.heap[g]? = some (.cells (l.map (Value.int .i64)).toArray 3 (0, 0))) (hn : n = l.length) : RowSl nuV W l (.slice (some ⟨g, 0, none⟩) n n) := by
  subst hn
  refine ⟨_, _, rfl, (fun e => by cases e), Nat.le_refl _, .inr ⟨g, 0, rfl, fun q u hq => ?_⟩⟩
  rw [Nat.zero_add]
  rw [zI_flat] at hq
  exact (cells_of h).1 q u hq

/-- What was played, and its fault, as they lie. -/
structure AN (w W : World) (gp : Nat) (r e : Value) (lr le : List Int) : Prop where
  bel : Below w.heap.size w W
  p : W.heap[gp]? = some (.cells #[r, e] 43 (0, 0))
  f : W.heap[gp + 1]? = some (.cells #[.int .i64 0, .int .i64 0] 30 (0, 0))
  rr : RowSl nuV W lr r
  re : RowSl nuV W le e

theorem AN.grow {w W W' : World} {gp : Nat} {r e : Value} {lr le : List Int} (h : AN w W gp r e lr le) (hb : Below W.heap.size W W') : AN w W' gp r e lr le :=
  ⟨below_seq h.bel hb, (hb.block _ (lt_of_heap h.p)).trans h.p, (hb.block _ (lt_of_heap h.f)).trans h.f, h.rr.below hb, h.re.below hb⟩

theorem AN.new {w W : World} {r e : Value} {lr le : List Int} (hb : Below w.heap.size w W) (hr : RowSl nuV W lr r) (he : RowSl nuV W le e) : AN w ((W.alloc (.cells #[r, e] 43)).alloc (.cells #[.int .i64 0, .int .i64 0] 30)) W.heap.size r e lr le :=
  ⟨below_seq hb (below_seq (below_new _ _) (below_new _ _)), (Below.heap_alloc _ _ _ (by simp)).trans (heap_alloc_new _ _), heap_new2 _ _ _, hr.below (below_seq (below_new _ _) (below_new _ _)), he.below (below_seq (below_new _ _) (below_new _ _))⟩

theorem AN.at {w W : World} {gp : Nat} {r e : Value} {lr le : List Int} (h : AN w W gp r e lr le) : W.cell? ⟨gp, 0, none⟩ = some r ∧ W.cell? ⟨gp, 1, none⟩ = some e ∧ W.cell? ⟨gp + 1, 0, none⟩ = some (.int .i64 0) ∧ gp < W.heap.size ∧ gp + 1 < W.heap.size := by
  have a := (cells_of (l := [_, _]) h.p).1
  have b := (cells_of (l := [_, _]) h.f).1
  exact ⟨a 0 _ rfl, a 1 _ rfl, b 0 _ rfl, lt_of_heap h.p, lt_of_heap h.f⟩

set_option maxRecDepth 20000 in
set_option maxHeartbeats 4000000 in
theorem anew_any (w : World) : Calls Tryd.prog 5 #[] w fun r w' => r = .returned (.bool true) ∧ Below w.heap.size w w' := by
  have P1 := fun W => PlayR_good ((W.alloc (.cells #[.int .i64 0, .int .i64 0, .int .i64 4, .int .i64 9, .int .i64 1] 40)).alloc (.cells #[.int .i64 1, .int .i64 3] 3)) [jobA] 2 [1, 3] 9 (.slice (some ⟨W.heap.size, 0, none⟩) 1 1) (.slice (some ⟨W.heap.size + 1, 0, none⟩) 2 2) ((row_new (f := Jb.vals) W [jobA] 1 #[.int .i64 0, .int .i64 0, .int .i64 4, .int .i64 9, .int .i64 1] 40 rfl rfl).below (below_new _ _)) (by have := row_new (f := nuV) (W.alloc (.cells #[.int .i64 0, .int .i64 0, .int .i64 4, .int .i64 9, .int .i64 1] 40)) [1, 3] 2 #[.int .i64 1, .int .i64 3] 3 rfl rfl; simpa using this) anew_c1
  have P2 := fun W => PlayR_good ((W.alloc (.cells #[.int .i64 0, .int .i64 0, .int .i64 4, .int .i64 9, .int .i64 1] 40)).alloc (.cells #[.int .i64 2] 3)) [jobA] 0 [2] 9 (.slice (some ⟨W.heap.size, 0, none⟩) 1 1) (.slice (some ⟨W.heap.size + 1, 0, none⟩) 1 1) ((row_new (f := Jb.vals) W [jobA] 1 #[.int .i64 0, .int .i64 0, .int .i64 4, .int .i64 9, .int .i64 1] 40 rfl rfl).below (below_new _ _)) (by have := row_new (f := nuV) (W.alloc (.cells #[.int .i64 0, .int .i64 0, .int .i64 4, .int .i64 9, .int .i64 1] 40)) [2] 1 #[.int .i64 2] 3 rfl rfl; simpa using this) anew_c2
  have Q1 := P1 w
  have HP2 : Hid _ := P2
  clear P1 P2
  go_enter Tryd.func5, Tryd.ntmps5
  go_upto_region 2 with (go_at_call 15; refine Q1.mono ?_; rintro r w1 ⟨v1, v2, rfl, ⟨q, rb, eb, hpl, rfl, rfl, hrb, heb, -, -, -⟩, hb1⟩; have hq := anew_1 hpl; rw [hq.1] at hrb; rw [hq.2] at heb; have A1 : Hid (AN w ((w1.alloc (.cells #[.slice (some ⟨rb, 0, none⟩) 9 9, .slice (some ⟨eb, 0, none⟩) 1 1] 43)).alloc (.cells #[.int .i64 0, .int .i64 0] 30)) w1.heap.size (.slice (some ⟨rb, 0, none⟩) 9 9) (.slice (some ⟨eb, 0, none⟩) 1 1) [0, 0, 0, 0, 0, 0, 0, 0, -1] [8]) := AN.new (below_seq (below_seq (below_new _ _) (below_new _ _)) hb1) (row_of hrb rfl) (row_of heb rfl); clear hpl hq hrb heb hb1 Q1)
  generalize ((w1.alloc (.cells #[.slice (some ⟨rb, 0, none⟩) 9 9, .slice (some ⟨eb, 0, none⟩) 1 1] 43)).alloc (.cells #[.int .i64 0, .int .i64 0] 30)) = w2 at *
  generalize w1.heap.size = g1 at *
  have Q2 := HP2.out w2
  go_upto_region 3 with (go_at_call 15; refine Q2.mono ?_; rintro r w3 ⟨v1, v2, rfl, ⟨q, rc, ec, hpl, rfl, rfl, hrb, heb, -, -, -⟩, hb1⟩; have hq := anew_2 hpl; rw [hq] at heb; have B1 := A1.out.grow (below_seq (below_seq (below_seq (below_seq (below_new _ _) (below_new _ _)) hb1) (below_new _ (.cells #[.slice (some ⟨rc, 0, none⟩) 9 9, .slice (some ⟨ec, 0, none⟩) 1 1] 43))) (below_new _ (.cells #[.int .i64 0, .int .i64 0] 30))); have A2 : Hid (AN w ((w3.alloc (.cells #[.slice (some ⟨rc, 0, none⟩) 9 9, .slice (some ⟨ec, 0, none⟩) 1 1] 43)).alloc (.cells #[.int .i64 0, .int .i64 0] 30)) w3.heap.size (.slice (some ⟨rc, 0, none⟩) 9 9) (.slice (some ⟨ec, 0, none⟩) 1 1) q.s.runs [7] ∧ AN w ((w3.alloc (.cells #[.slice (some ⟨rc, 0, none⟩) 9 9, .slice (some ⟨ec, 0, none⟩) 1 1] 43)).alloc (.cells #[.int .i64 0, .int .i64 0] 30)) g1 (.slice (some ⟨rb, 0, none⟩) 9 9) (.slice (some ⟨eb, 0, none⟩) 1 1) [0, 0, 0, 0, 0, 0, 0, 0, -1] [8]) := ⟨AN.new (below_seq A1.out.bel (below_seq (below_seq (below_new _ _) (below_new _ _)) hb1)) (row_of hrb (anew_len hpl)) (row_of heb rfl), B1⟩; clear hpl hq hrb heb hb1 Q2 B1 A1 HP2)
  generalize q.s.runs = lq at *
  generalize ((w3.alloc (.cells #[.slice (some ⟨rc, 0, none⟩) 9 9, .slice (some ⟨ec, 0, none⟩) 1 1] 43)).alloc (.cells #[.int .i64 0, .int .i64 0] 30)) = w4 at *
  generalize w3.heap.size = g3 at *
  have R1 := three_any w4
  go_upto_region 4 with (first | (go_at_call 8; refine R2.mono ?_; rintro r w6 ⟨rfl, hb6⟩; have A3 : Hid (AN w (w6.alloc (.cells #[.int .i64 0, .int .i64 0] 30)) g3 (.slice (some ⟨rc, 0, none⟩) 9 9) (.slice (some ⟨ec, 0, none⟩) 1 1) lq [7] ∧ AN w (w6.alloc (.cells #[.int .i64 0, .int .i64 0] 30)) g1 (.slice (some ⟨rb, 0, none⟩) 9 9) (.slice (some ⟨eb, 0, none⟩) 1 1) [0, 0, 0, 0, 0, 0, 0, 0, -1] [8]) := ⟨A2.out.1.grow (below_seq (below_seq hb5 hb6) (below_new _ _)), A2.out.2.grow (below_seq (below_seq hb5 hb6) (below_new _ _))⟩; clear hb5 hb6 R2 A2) | (go_at_call 20; refine R1.mono ?_; rintro r w5 ⟨v5, rfl, hr5, hb5⟩; have R2 := rd_any w5 threeL v5 1 100 0 (by decide) hr5; rw [anew_3] at R2; obtain ⟨a5, c5, rfl⟩ := hr5.len; clear hr5 R1))
  have f0 := (cells_of (l := [_, _]) (heap_alloc_new w6 (.cells #[.int .i64 0, .int .i64 0] 30))).1 0 _ rfl
  generalize (w6.alloc (.cells #[.int .i64 0, .int .i64 0] 30)) = w7 at *
  generalize w6.heap.size = g6 at *
  obtain ⟨x0, x1, x2, x3, x4⟩ := A3.out.1.at
  obtain ⟨y0, y1, y2, y3, y4⟩ := A3.out.2.at
  have S1 := SameN_any (w7.alloc (.cells #[.int .i64 0, .int .i64 0, .int .i64 0, .int .i64 0, .int .i64 0, .int .i64 0, .int .i64 0, .int .i64 0, .int .i64 (-1)] 3)) [0, 0, 0, 0, 0, 0, 0, 0, -1] _ _ (by decide) (A3.out.2.rr.below (below_new _ _)) (row_new (f := nuV) w7 [0, 0, 0, 0, 0, 0, 0, 0, -1] 9 #[.int .i64 0, .int .i64 0, .int .i64 0, .int .i64 0, .int .i64 0, .int .i64 0, .int .i64 0, .int .i64 0, .int .i64 (-1)] 3 rfl rfl)
  have S2 : Hid (∀ W, Below w7.heap.size w7 W → Calls Tryd.prog 21 #[.slice (some ⟨eb, 0, none⟩) 1 1, .slice (some ⟨W.heap.size, 0, none⟩) 1 1] (W.alloc (.cells #[.int .i64 8] 3)) fun r w' => r = .returned (.bool true) ∧ Below (W.alloc (.cells #[.int .i64 8] 3)).heap.size (W.alloc (.cells #[.int .i64 8] 3)) w') := fun W hb => SameN_any _ [8] _ _ (by decide) (A3.out.2.re.below (below_seq hb (below_new _ _))) (row_new (f := nuV) W [8] 1 #[.int .i64 8] 3 rfl rfl)
  have S3 : Hid (∀ W, Below w7.heap.size w7 W → Calls Tryd.prog 21 #[.slice (some ⟨ec, 0, none⟩) 1 1, .slice (some ⟨W.heap.size, 0, none⟩) 1 1] (W.alloc (.cells #[.int .i64 7] 3)) fun r w' => r = .returned (.bool true) ∧ Below (W.alloc (.cells #[.int .i64 7] 3)).heap.size (W.alloc (.cells #[.int .i64 7] 3)) w') := fun W hb => SameN_any _ [7] _ _ (by decide) (A3.out.1.re.below (below_seq hb (below_new _ _))) (row_new (f := nuV) W [7] 1 #[.int .i64 7] 3 rfl rfl)
  go_wp2_with (first | (go_at_call 21; refine (S3.out w9 H9.out).mono ?_; rintro r w10 ⟨rfl, hb10⟩; have H10 : Hid (Below w7.heap.size w7 w10) := below_seq H9.out (below_seq (below_new _ _) hb10); clear hb10) | (go_at_call 21; refine (S2.out w8 H8.out).mono ?_; rintro r w9 ⟨rfl, hb9⟩; have H9 : Hid (Below w7.heap.size w7 w9) := below_seq H8.out (below_seq (below_new _ _) hb9); have x1' := below_cell H9.out x1; have x3' : g3 < w9.heap.size := Nat.lt_of_lt_of_le x3 H9.out.size; clear hb9) | (go_at_call 21; refine S1.mono ?_; rintro r w8 ⟨rfl, hb8⟩; have H8 : Hid (Below w7.heap.size w7 w8) := below_seq (below_new _ _) hb8; have y1' := below_cell H8.out y1; have y3' : g1 < w8.heap.size := Nat.lt_of_lt_of_le y3 H8.out.size; clear hb8 S1))
  go_ret
  exact ⟨rfl, below_seq A3.out.1.bel H10.out⟩
end Go.Proofs.YtekbkcgpjkecbalDoor.S8
