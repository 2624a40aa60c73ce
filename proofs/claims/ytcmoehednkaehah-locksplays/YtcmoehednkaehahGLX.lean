import Derived.Test.YtcmoehednkaehahGLF
import Derived.LaidMore
import Derived.ChangeArms
import Derived.OpenShut
namespace Go.Proofs.Ytcmoehednkaehah
open Go.ChangeShapes Go.WideShapes Go.ChangeAt Go.RowKit

theorem Longest_ends {w : World} {g : Nat} {c k p : Value} {a : Act} (h : w.heap[g]? = some (.cells #[c, k] 31 (0, 0))) (h2 : a.tmps[2]?.getD undef = p) (h3 : a.tmps[3]?.getD undef = .pointer (some ⟨g, 0, none⟩)) :
    (results Try.f14 a.tmps).run Try.prog w = .ok (.tuple #[p, .agg #[c, k]]) w := by
  obtain ⟨c1, f1, l1⟩ := cells_of (l := [_, _]) h
  have c10 := c1 0 _ rfl
  have c11 := c1 1 _ rfl
  simp [results, Try.results14, go_sem, h2, h3, c10, c11]

theorem chkA_zero : ∀ (l : List Ac) (st : List Int) (k : Nat), (chkA l st k).1 = 0 → chkA l st k = (0, 0)
  | [], st, k, h => by
    rw [chkA] at h ⊢
    by_cases h0 : st = []
    · rw [if_pos h0]
    · rw [if_neg h0] at h; cases h
  | a :: r, st, k, h => by
    rw [chkA] at h ⊢
    by_cases h0 : doC st a = 0
    · rw [if_pos h0] at h ⊢
      exact chkA_zero r _ _ h
    · rw [if_neg h0] at h
      exact absurd h h0

theorem chkActs_zero {l : List Ac} (h : (chkActs l).1 = 0) : chkActs l = (0, 0) := by
  unfold chkActs at h ⊢
  by_cases h0 : 200 < l.length
  · rw [if_pos h0] at h; cases h
  · rw [if_neg h0] at h ⊢
    exact chkA_zero _ _ _ h

theorem max_if (b t : Int) : (if b < t then t else b) = max b t := by
  split <;> omega

/-- How far the stretches have been measured. -/
structure Lon (l : List Ac) (j : Nat) (st : List Int) (t b : Int) : Prop where
  jl : j ≤ l.length
  sl : st.length ≤ j
  t0 : 0 ≤ t
  t1 : t ≤ 1000 * j
  b0 : 0 ≤ b
  b1 : b ≤ 1000 * j
  tb : t ≤ b
  nil : st = [] → t = 0
  ok : chkA (l.drop j) st j = (0, 0)
  lon : lonF (l.drop j) st.length t b = longF l

theorem Lon.start {l : List Ac} (h : chkA l [] 0 = (0, 0)) : Lon l 0 [] 0 0 := ⟨Nat.zero_le _, Nat.le_refl _, Int.le_refl _, by omega, Int.le_refl _, by omega, Int.le_refl _, fun _ => rfl, h, rfl⟩

theorem Lon.stop {l : List Ac} {st : List Int} {t b : Int} (h : Lon l l.length st t b) : b = longF l := by
  have := h.lon
  rw [List.drop_length, lonF] at this
  exact this

/-- Another act. -/
theorem Lon.step {l : List Ac} {j : Nat} {st : List Int} {t b : Int} (h : Lon l j st t b) (hlt : j < l.length) : ∃ x, l[j]? = some x ∧
    ((x.d = 2 ∧ Lon l (j + 1) (st ++ [x.n]) t (max b t)) ∨ (x.d = 3 ∧ ∃ st', st = st' ++ [x.n] ∧ ((st' = [] ∧ Lon l (j + 1) st' 0 (max b 0)) ∨ (st' ≠ [] ∧ Lon l (j + 1) st' t (max b t)))) ∨ (x.d = 1 ∧ 1 ≤ x.n ∧ x.n ≤ 1000 ∧ ((st = [] ∧ Lon l (j + 1) st 0 (max b 0)) ∨ (st ≠ [] ∧ Lon l (j + 1) st (t + x.n) (max b (t + x.n)))))) := by
  obtain ⟨x, hx, hd⟩ := drop_at hlt
  obtain ⟨h1, h2, h3, h4, h5, h6, h7, h8, h9, h10⟩ := h
  rw [hd] at h9 h10
  obtain ⟨hf, hk⟩ := chkA_fine h9
  refine ⟨x, hx, ?_⟩
  rw [lonF] at h10
  generalize he : doS st x = s' at hf hk
  rcases hf with ⟨e, e1, e2⟩ | ⟨e, e1, e2, e3⟩ | ⟨e, _, e1⟩
  · refine .inr (.inr ⟨e, e1, e2, ?_⟩)
    rw [if_neg (by omega), if_neg (by omega)] at h10
    by_cases hs : st = []
    · subst hs
      rw [if_pos (by simp)] at h10
      exact .inl ⟨rfl, by omega, by simp, by omega, by omega, by omega, by omega, by omega, fun _ => rfl, hk, h10⟩
    · have hp := List.length_pos_iff.2 hs
      rw [if_neg (by omega)] at h10
      exact .inr ⟨hs, by omega, by omega, by omega, by omega, by omega, by omega, by omega, fun e => absurd e hs, hk, h10⟩
  · refine .inl ⟨e, by omega, by simp; omega, by omega, by omega, by omega, by omega, by omega, fun e => by simp at e, hk, ?_⟩
    rw [if_pos e] at h10
    rw [List.length_append]
    exact h10
  · subst e1
    refine .inr (.inl ⟨e, s', rfl, ?_⟩)
    have hlen : (s' ++ [x.n]).length = s'.length + 1 := by simp
    rw [if_neg (by omega), if_pos e, hlen] at h10
    rw [hlen] at h2
    by_cases hs : s' = []
    · subst hs
      rw [if_pos (by simp)] at h10
      exact .inl ⟨rfl, by omega, by simp, by omega, by omega, by omega, by omega, by omega, fun _ => rfl, hk, h10⟩
    · have hp := List.length_pos_iff.2 hs
      rw [if_neg (by omega)] at h10
      exact .inr ⟨hs, by omega, by omega, by omega, by omega, by omega, by omega, by omega, fun e => absurd e hs, hk, by simpa using h10⟩

set_option maxRecDepth 20000 in
set_option maxHeartbeats 4000000 in
theorem Longest_bad (w : World) (l : List Ac) (v : Value) (hv : RowSl Ac.vals w l v) (h0 : (chkActs l).1 ≠ 0) : Calls Try.prog 14 #[v] w fun r w' => r = .returned (.tuple #[.int .i64 0, .agg #[.int .i64 (chkActs l).1, .int .i64 (chkActs l).2]]) ∧ Below w.heap.size w w' := by
  have HF : Hid (FB w (w.alloc (.cells #[.int .i64 0, .int .i64 0] 31)) w.heap.size) := FB.start w
  have HC := Check_any (w.alloc (.cells #[.int .i64 0, .int .i64 0] 31)) l v (hv.below (below_new _ _))
  obtain ⟨ad, c, rfl⟩ := hv.len
  clear hv
  generalize chkActs l = z at *
  obtain ⟨z1, z2⟩ := z
  dsimp only at h0 HC ⊢
  have hzb : (z1 != 0) = true := by simpa using h0
  go_enter Try.func14, Try.ntmps14
  go_wp2_with (go_at_call 26; refine HC.mono ?_; rintro r w1 ⟨rfl, hb1⟩; have H1 : Hid (FB w w1 w.heap.size) := HF.out.grow hb1; obtain ⟨r10, r11, f10, f11, rl⟩ := H1.out.res2; clear hb1 HC)
  go_region
  all_goals go_wp2_with fail
  all_goals
    refine bodyPost_ret (Longest_ends (set_two_new _ H1.out.res) rfl rfl) rfl ?_
    exact ⟨rfl, (H1.out.set_new _ _ _).drew⟩

set_option maxRecDepth 20000 in
set_option maxHeartbeats 4000000 in
theorem Longest_good (w : World) (l : List Ac) (v : Value) (hv : RowSl Ac.vals w l v) (h0 : chkActs l = (0, 0)) : Calls Try.prog 14 #[v] w fun r w' => r = .returned (.tuple #[.int .i64 (longF l), .agg #[.int .i64 0, .int .i64 0]]) ∧ Below w.heap.size w w' := by
  have HF : Hid (FB w (w.alloc (.cells #[.int .i64 0, .int .i64 0] 31)) w.heap.size) := FB.start w
  have HC := Check_any (w.alloc (.cells #[.int .i64 0, .int .i64 0] 31)) l v (hv.below (below_new _ _))
  rw [h0] at HC
  obtain ⟨hl, hok⟩ := chkActs_fine h0
  obtain ⟨ad, c, rfl, -, hcap, hrow⟩ := hv
  have HR : Hid ((l = [] ∨ ∃ b o, ad = some ⟨b, o, none⟩ ∧ ∀ q u, (l.flatMap Ac.vals)[q]? = some u → w.cell? ⟨b, o + q, none⟩ = some u) ∧ chkA l [] 0 = (0, 0)) := ⟨hrow, hok⟩
  clear hrow hok h0
  go_enter Try.func14, Try.ntmps14
  go_wp2_with (go_at_call 26; refine HC.mono ?_; rintro r w1 ⟨rfl, hb1⟩; have H1 : Hid (FB w w1 w.heap.size) := HF.out.grow hb1; clear hb1 HC)
  go_loopw [5, 6, 7, 18] (fun vb vt vh vi wr => ∃ (j : Nat) (st : List Int) (t b : Int), vb = .int .i64 b ∧ vt = .int .i64 t ∧ vh = .int .i64 (st.length : Int) ∧ vi = .int .i64 j ∧ FB w wr w.heap.size ∧ Lon l j st t b) (fun _ _ _ i _ => l.length - (intOf i).toNat)
  case atStart => exact ⟨0, [], 0, 0, rfl, rfl, rfl, rfl, H1.out.grow (below_new _ _), Lon.start HR.out.2⟩
  case round =>
    obtain ⟨j, st, t, b, rfl, rfl, rfl, rfl, hb, hn⟩ := hrel
    have HB : Hid (FB w wr w.heap.size ∧ Lon l j st t b) := ⟨hb, hn⟩
    have hj := hn.jl
    by_cases hlt : j < l.length
    · obtain ⟨x, hx, hstep⟩ := hn.step hlt
      rcases HR.out.1 with h | ⟨g, o, rfl, hrow⟩
      · rw [h] at hlt; simp at hlt
      have ha := ac_at (fun q u hq => below_cell hb.bel (hrow q u hq)) hx
      obtain ⟨d, n⟩ := x
      obtain ⟨c0, c1⟩ := ha
      dsimp only at c0 c1 hstep
      have lb : g < wr.heap.size := World.block_lt_of_cell? _ _ c0
      have hji : (j : Int) < (l.length : Int) := by omega
      have q1 := hn.t0
      have q2 := hn.t1
      have q3 := hn.b0
      have q4 := hn.b1
      have q5 := hn.sl
      clear hb hn hrow hx
      rcases hstep with ⟨rfl, hN⟩ | ⟨rfl, st', rfl, ⟨rfl, hN⟩ | ⟨hne, hN⟩⟩ | ⟨rfl, n1, n2, ⟨rfl, hN⟩ | ⟨hne, hN⟩⟩
      · have HN : Hid (Lon l (j + 1) (st ++ [n]) t (max b t)) := hN
        have z1 : ((st.length : Int) + 1 == 0) = false := by simp; omega
        clear hN
        go_wp2_with fail
        exact ⟨⟨j + 1, st ++ [n], t, max b t, by rw [max_if], rfl, by simp, by simp, HB.out.1.grow (below_new _ _), HN.out⟩, by simp [intOf]; omega⟩
      · have HN : Hid (Lon l (j + 1) [] 0 (max b 0)) := hN
        clear hN
        go_wp2_with fail
        exact ⟨⟨j + 1, [], 0, max b 0, by first | rw [max_if] | (congr 1; omega), rfl, by simp, by simp, HB.out.1.grow (below_new _ _), HN.out⟩, by simp [intOf]; omega⟩
      · have HN : Hid (Lon l (j + 1) st' t (max b t)) := hN
        have hp := List.length_pos_iff.2 hne
        have z1 : ((st'.length : Int) == 0) = false := by simp; omega
        have q6 : st'.length + 1 ≤ j := by simpa using q5
        have q7 : j ≤ 200 := by omega
        clear hN q5
        rw [show ((st' ++ [n]).length : Int) = (st'.length : Int) + 1 by simp]
        go_wp2_with fail
        exact ⟨⟨j + 1, st', t, max b t, by rw [max_if], rfl, by simp, by simp, HB.out.1.grow (below_new _ _), HN.out⟩, by simp [intOf]; omega⟩
      · have HN : Hid (Lon l (j + 1) [] 0 (max b 0)) := hN
        clear hN
        go_wp2_with fail
        exact ⟨⟨j + 1, [], 0, max b 0, by first | rw [max_if] | (congr 1; omega), rfl, by simp, by simp, HB.out.1.grow (below_new _ _), HN.out⟩, by simp [intOf]; omega⟩
      · have HN : Hid (Lon l (j + 1) st (t + n) (max b (t + n))) := hN
        have hp := List.length_pos_iff.2 hne
        have z1 : ((st.length : Int) == 0) = false := by simp; omega
        clear hN
        go_wp2_with fail
        exact ⟨⟨j + 1, st, t + n, max b (t + n), by rw [max_if], rfl, by simp, by simp, HB.out.1.grow (below_new _ _), HN.out⟩, by simp [intOf]; omega⟩
    · have hje : j = l.length := by omega
      subst hje
      have HE : Hid (b = longF l) := hn.stop
      obtain ⟨r10, r11, f10, f11, rl⟩ := hb.res2
      clear hb hn
      go_wp2_with fail
      refine bodyPost_ret (Longest_ends (set_two HB.out.1.res) rfl rfl) rfl ?_
      exact ⟨by rw [← HE.out]; rfl, HB.out.1.set _ _⟩

/-- locks.Longest. -/
theorem Longest_any (w : World) (l : List Ac) (v : Value) (hv : RowSl Ac.vals w l v) : Calls Try.prog 14 #[v] w fun r w' => r = .returned (.tuple #[.int .i64 (if (chkActs l).1 = 0 then longF l else 0), .agg #[.int .i64 (chkActs l).1, .int .i64 (chkActs l).2]]) ∧ Below w.heap.size w w' := by
  by_cases h0 : (chkActs l).1 = 0
  · have e := chkActs_zero h0
    rw [if_pos h0, e]
    exact Longest_good w l v hv e
  · rw [if_neg h0]
    exact Longest_bad w l v hv h0
end Go.Proofs.Ytcmoehednkaehah
namespace Go.Proofs.Ytcmoehednkaehah
open Go.ChangeShapes Go.WideShapes Go.ChangeAt Go.RowKit

theorem row_new {α : Type} {f : α → List Value} (w : World) (l : List α) (n : Nat) (cs : Array Value) (t : TypeId) (hn : n = l.length) (hc : cs = (l.flatMap f).toArray) : RowSl f (w.alloc (.cells cs t)) l (.slice (some ⟨w.heap.size, 0, none⟩) n n) := by
  subst hn hc
  refine ⟨_, _, rfl, (fun e => by cases e), Nat.le_refl _, .inr ⟨w.heap.size, 0, rfl, fun q u hq => ?_⟩⟩
  rw [Nat.zero_add]
  exact (cells_of (heap_alloc_new _ _)).1 q u hq

theorem row_at {α : Type} {f : α → List Value} (w : World) (g : Nat) (l : List α) (n : Nat) (cs : Array Value) (t : TypeId) (hg : w.heap.size = g) (hn : n = l.length) (hc : cs = (l.flatMap f).toArray) : RowSl f (w.alloc (.cells cs t)) l (.slice (some ⟨g, 0, none⟩) n n) := by
  subst hg
  exact row_new w l n cs t hn hc

set_option maxRecDepth 20000 in
set_option maxHeartbeats 4000000 in
theorem SameN_any (w : World) (l : List Int) (v v' : Value) (hl : l.length ≤ 4194304) (h : RowSl nuV w l v) (h' : RowSl nuV w l v') :
    Calls Try.prog 10 #[v, v'] w fun r w' => r = .returned (.bool true) ∧ Below w.heap.size w w' := by
  obtain ⟨ad, c, rfl, -, -, hc⟩ := h
  obtain ⟨ad', c', rfl, -, -, hc'⟩ := h'
  have HR : Hid (_ ∧ _) := ⟨hc, hc'⟩
  clear hc hc'
  go_enter Try.func10, Try.ntmps10
  go_wp2_with fail
  go_loopw [13] (fun x wr => ∃ j : Nat, j ≤ l.length ∧ x = .int .i64 j ∧ Below w.heap.size w wr) (fun x _ => l.length - (intOf x).toNat)
  case atStart => exact ⟨0, Nat.zero_le _, rfl, Below.refl _ _⟩
  case round =>
    obtain ⟨j, hj, rfl, hb⟩ := hrel
    have HB : Hid (Below w.heap.size w wr) := hb
    by_cases hlt : j < l.length
    · obtain ⟨x, hx, -⟩ := drop_at hlt
      rcases HR.out.1 with h | ⟨b1, o1, rfl, hrow1⟩
      · rw [h] at hlt; simp at hlt
      rcases HR.out.2 with h | ⟨b2, o2, rfl, hrow2⟩
      · rw [h] at hlt; simp at hlt
      have c0 := nu_at (fun q u hq => below_cell hb (hrow1 q u hq)) hx
      have d0 := nu_at (fun q u hq => below_cell hb (hrow2 q u hq)) hx
      clear hrow1 hrow2 hb hx
      go_wp2_with fail
      go_quiet (fail)
      go_wp2_with fail
      go_roundw
      case rel => exact ⟨j + 1, by omega, by go_num, below_seq HB.out (below_drewN' (n := nq))⟩
      case measure => simp [intOf]; omega
    · have hje : j = l.length := by omega
      subst hje
      go_wp2_with fail
      go_ret
      exact ⟨rfl, hb⟩

set_option maxRecDepth 20000 in
set_option maxHeartbeats 4000000 in
theorem SameA_any (w : World) (l : List Ac) (v v' : Value) (hl : l.length ≤ 9000000000000000000) (h : RowSl Ac.vals w l v) (h' : RowSl Ac.vals w l v') :
    Calls Try.prog 24 #[v, v'] w fun r w' => r = .returned (.bool true) ∧ Below w.heap.size w w' := by
  obtain ⟨ad, c, rfl, -, -, hc⟩ := h
  obtain ⟨ad', c', rfl, -, -, hc'⟩ := h'
  have HR : Hid (_ ∧ _) := ⟨hc, hc'⟩
  clear hc hc'
  go_enter Try.func24, Try.ntmps24
  go_wp2_with fail
  go_loopw [13] (fun x wr => ∃ j : Nat, j ≤ l.length ∧ x = .int .i64 j ∧ Below w.heap.size w wr) (fun x _ => l.length - (intOf x).toNat)
  case atStart => exact ⟨0, Nat.zero_le _, rfl, Below.refl _ _⟩
  case round =>
    obtain ⟨j, hj, rfl, hb⟩ := hrel
    have HB : Hid (Below w.heap.size w wr) := hb
    by_cases hlt : j < l.length
    · obtain ⟨x, hx, -⟩ := drop_at hlt
      rcases HR.out.1 with h | ⟨b1, o1, rfl, hrow1⟩
      · rw [h] at hlt; simp at hlt
      rcases HR.out.2 with h | ⟨b2, o2, rfl, hrow2⟩
      · rw [h] at hlt; simp at hlt
      obtain ⟨c0, c1⟩ := ac_at (fun q u hq => below_cell hb (hrow1 q u hq)) hx
      obtain ⟨d0, d1⟩ := ac_at (fun q u hq => below_cell hb (hrow2 q u hq)) hx
      have hji : (j : Int) < (l.length : Int) := by omega
      clear hrow1 hrow2 hb hx
      obtain ⟨xd, xn⟩ := x
      dsimp only at c0 c1 d0 d1
      go_wp2_with fail
      go_quiet (fail)
      go_wp2_with fail
      go_roundw
      case rel => exact ⟨j + 1, by omega, by go_num, below_seq HB.out (below_drewN' (n := nq))⟩
      case measure => simp [intOf]; omega
    · have hje : j = l.length := by omega
      subst hje
      go_wp2_with fail
      go_ret
      exact ⟨rfl, hb⟩

def pairL (v0 v1 : Value) : List Lj := [⟨0, 1, [⟨1, 1⟩, ⟨2, 0⟩, ⟨1, 3⟩, ⟨3, 0⟩], v0⟩, ⟨2, 2, [⟨2, 0⟩, ⟨1, 1⟩, ⟨3, 0⟩], v1⟩]

set_option maxRecDepth 20000 in
theorem pair_any (w : World) : Calls Try.prog 15 #[] w fun r w' => ∃ v v0 v1, r = .returned v ∧ LkSl w' (pairL v0 v1) v ∧ Below w.heap.size w w' := by
  go_enter Try.func15, Try.ntmps15
  go_wp2_with fail
  go_ret
  have e1 : (w.alloc (.cells #[.int .i64 1, .int .i64 1, .int .i64 2, .int .i64 0, .int .i64 1, .int .i64 3, .int .i64 3, .int .i64 0] 61)).heap.size = w.heap.size + 1 := by simp
  have e2 : ((w.alloc (.cells #[.int .i64 1, .int .i64 1, .int .i64 2, .int .i64 0, .int .i64 1, .int .i64 3, .int .i64 3, .int .i64 0] 61)).alloc (.cells #[.int .i64 2, .int .i64 0, .int .i64 1, .int .i64 1, .int .i64 3, .int .i64 0] 61)).heap.size = w.heap.size + 1 + 1 := by simp
  refine ⟨_, .slice (some ⟨w.heap.size, 0, none⟩) 4 4, .slice (some ⟨w.heap.size + 1, 0, none⟩) 3 3, rfl, ⟨row_at _ _ (pairL _ _) 2 _ 47 e2 rfl rfl, fun x hx => ?_⟩, below_seq (below_seq (below_new _ _) (below_new _ _)) (below_new _ _)⟩
  simp only [pairL, List.mem_cons, List.not_mem_nil, or_false] at hx
  rcases hx with rfl | rfl
  · exact ((row_at (f := Ac.vals) w _ [⟨1, 1⟩, ⟨2, 0⟩, ⟨1, 3⟩, ⟨3, 0⟩] 4 _ 61 rfl rfl rfl).below (below_new _ _)).below (below_new _ _)
  · exact (row_at (f := Ac.vals) _ _ [⟨2, 0⟩, ⟨1, 1⟩, ⟨3, 0⟩] 3 _ 61 e1 rfl rfl).below (below_new _ _)
end Go.Proofs.Ytcmoehednkaehah
namespace Go.Proofs.Ytcmoehednkaehah
open Go.ChangeShapes Go.WideShapes Go.ChangeAt Go.RowKit

theorem cells3 : Try.prog.cellsOf 3 = 1 := by kernel_rfl
theorem cells35 : Try.prog.cellsOf 45 = 1 := by kernel_rfl
theorem cells48 : Try.prog.cellsOf 61 = 2 := by kernel_rfl
theorem cells44 : Try.prog.cellsOf 47 = 3 := by kernel_rfl
theorem bytes48 : Try.prog.bytesOf 61 = 16 := by kernel_rfl

theorem weightsAll_mem {H : Type} {P : Program} {e : TypeId} : ∀ {l : List (DataW H)} {d : DataW H}, d ∈ l → ∀ q ∈ d.weights P e, q ∈ DataW.weightsAll P e l
  | x :: r, d, h, q, hq => by
    rw [DataW.weightsAll]
    rcases List.mem_cons.1 h with rfl | h
    · exact List.mem_append_left _ hq
    · exact List.mem_append_right _ (weightsAll_mem h q hq)

section
variable {H : Type} {enc : TypeId × Value → H} {w : World} {sp : Nat → Bool} {held : Bool}

/-- A cell that is there lies at a plain address. -/
theorem plain_addr {w : World} {a : Addr} {v : Value} (h : w.cell? a = some v) : a = ⟨a.block, a.off, none⟩ := by
  obtain ⟨b, o, s⟩ := a
  cases s with
  | none => rfl
  | some x =>
    exfalso
    unfold World.cell? at h
    simp at h
    split at h <;> simp_all

theorem add_plain' (g o n : Nat) : (⟨g, o, none⟩ : Addr).add n = ⟨g, o + n, none⟩ := by
  unfold Addr.add
  by_cases h : n = 0
  · subst h; rfl
  · simp [h]

theorem cells_at {g o n : Nat} {cs : List Value} (h : w.cells? 0 ⟨g, o, none⟩ n = some cs) : cs.length = n ∧ ∀ i, i < n → w.cell? ⟨g, o + i, none⟩ = cs[i]? := by
  obtain ⟨-, h1, h2⟩ := World.cells?_some h
  refine ⟨h1, fun i hi => ?_⟩
  rw [← h2 i hi, add_plain']

/-- An act that can be read. -/
theorem ac_one {n : Nat} {cs : List Value} {y : DataW H × List MemPlace} (hl : cs.length = 2) (h : DataW.trod enc Try.prog w 0 sp held n 61 cs = some y) : ∃ x : Ac, cs = x.vals ∧ y.1 = .agg [.lit (.int .i64 x.d), .lit (.int .i64 x.n)] := by
  match cs, hl with
  | [c0, c1], _ =>
    obtain ⟨xs, n1, rfl, hy, -, hlen, hf⟩ := DataW.trod_struct Try.underlying61 h
    match xs, hlen with
    | [y0, y1], _ =>
      have f0 : DataW.trod enc Try.prog w 0 sp held n1 3 ((([c0, c1] : List Value).drop 0).take (Try.prog.cellsOf 3)) = some y0 := hf 0 _ rfl
      have f1 : DataW.trod enc Try.prog w 0 sp held n1 3 ((([c0, c1] : List Value).drop 1).take (Try.prog.cellsOf 3)) = some y1 := hf 1 _ rfl
      rw [cells3] at f0 f1
      obtain ⟨k0, e0, g0, -⟩ := DataW.trod_int Try.underlying3 (show DataW.trod enc Try.prog w 0 sp held n1 3 [c0] = some y0 from f0)
      obtain ⟨k1, e1, g1, -⟩ := DataW.trod_int Try.underlying3 (show DataW.trod enc Try.prog w 0 sp held n1 3 [c1] = some y1 from f1)
      simp only [List.cons.injEq, and_true] at e0 e1
      refine ⟨⟨k0, k1⟩, by rw [e0, e1]; rfl, ?_⟩
      rw [hy, g0, g1]
      rfl

theorem ac_row {n : Nat} (g : Nat) : ∀ (elems : List (DataW H × List MemPlace)) (o : Nat),
    (∀ i, i < elems.length → (w.cells? 0 ⟨g, o + i * 2, none⟩ 2).bind (DataW.trod enc Try.prog w 0 sp held n 61) = elems[i]?) →
    ∃ l : List Ac, l.length = elems.length ∧ ∀ q u, (l.flatMap Ac.vals)[q]? = some u → w.cell? ⟨g, o + q, none⟩ = some u
  | [], o, _ => ⟨[], rfl, fun q u hq => by simp at hq⟩
  | y :: r, o, h => by
    have h0 := h 0 (by simp)
    simp only [Nat.zero_mul, Nat.add_zero, List.getElem?_cons_zero] at h0
    obtain ⟨cs, hc, ht⟩ := Option.bind_eq_some_iff.1 h0
    obtain ⟨hlen, hcell⟩ := cells_at hc
    obtain ⟨x, rfl, -⟩ := ac_one hlen ht
    obtain ⟨l, hl, hrow⟩ := ac_row g r (o + 2) (fun i hi => by
      have := h (i + 1) (by simp; omega)
      rw [show o + (i + 1) * 2 = o + 2 + i * 2 by omega] at this
      simpa using this)
    refine ⟨x :: l, by simp [hl], fun q u hq => ?_⟩
    rw [List.flatMap_cons] at hq
    by_cases h7 : q < 2
    · rw [List.getElem?_append_left (by rw [Ac.len]; exact h7)] at hq
      rw [hcell q h7]
      exact hq
    · rw [List.getElem?_append_right (by rw [Ac.len]; omega), Ac.len] at hq
      have := hrow (q - 2) u hq
      rw [show o + 2 + (q - 2) = o + q by omega] at this
      exact this

/-- A slice of acts that can be read. -/
theorem acSl_of {ad : Option Addr} {n c k : Nat} {y : DataW H × List MemPlace} (hq : DataW.trod enc Try.prog w 0 sp held k 45 [.slice ad n c] = some y) : ∃ l : List Ac, n = l.length ∧ RowSl Ac.vals w l (.slice ad n c) ∧ ∀ R, (∀ q ∈ y.1.weights Try.prog 45, q ≤ R) → l.length * 16 ≤ R := by
  rcases DataW.trod_slice Try.underlying45 hq with ⟨h1, -⟩ | ⟨a, len, cap, elems, rest, n2, -, h1, hy, -, hlc, -, hle, hel, -, -⟩
  · simp only [List.cons.injEq, and_true, Value.slice.injEq] at h1
    obtain ⟨rfl, rfl, rfl⟩ := h1
    exact ⟨[], rfl, RowSl.nil _ _, fun R _ => by simp⟩
  · simp only [List.cons.injEq, and_true, Value.slice.injEq] at h1
    obtain ⟨rfl, rfl, rfl⟩ := h1
    subst hle
    simp only [cells48] at hel
    have hwt : ∀ R, (∀ q ∈ y.1.weights Try.prog 45, q ≤ R) → elems.length * 16 ≤ R := fun R hR => by
      have := hR ((elems.length + rest.length) * 16) (by
        rw [hy]
        simp only [DataW.weights, Try.underlying45, bytes48, List.length_map]
        exact List.mem_cons_self ..)
      omega
    cases elems with
    | nil => exact ⟨[], rfl, ⟨_, _, rfl, (fun e => by cases e), Nat.zero_le _, .inl rfl⟩, fun R _ => by simp⟩
    | cons z r =>
      have hz := hel 0 (by simp)
      obtain ⟨cs0, hc0, ht0⟩ := Option.bind_eq_some_iff.1 hz
      obtain ⟨-, hlen0, hpl⟩ := World.cells?_some hc0
      obtain ⟨x, rfl, -⟩ := ac_one hlen0 (by simpa using ht0)
      have hpa := plain_addr (w := w) (a := a) (v := .int .i64 x.d) (by simpa [Addr.add, Ac.vals] using hpl 0 (by omega))
      obtain ⟨l, hl, hrow⟩ := ac_row (n := n2) a.block (z :: r) a.off (fun i hi => by
        have := hel i hi
        rw [hpa, add_plain'] at this
        exact this)
      exact ⟨l, hl.symm, ⟨some a, c, by rw [hl], (fun e => by cases e), by omega, .inr ⟨a.block, a.off, by rw [← hpa], hrow⟩⟩, fun R hR => by rw [hl]; exact hwt R hR⟩

/-- A job that can be read. -/
theorem lk_one {n : Nat} {cs : List Value} {y : DataW H × List MemPlace} (hl : cs.length = 3) (h : DataW.trod enc Try.prog w 0 sp held n 47 cs = some y) : ∃ x : Lj, cs = x.vals ∧ RowSl Ac.vals w x.acts x.v ∧ ∀ R, (∀ q ∈ y.1.weights Try.prog 47, q ≤ R) → x.acts.length * 16 ≤ R := by
  match cs, hl with
  | [c0, c1, c2], _ =>
    obtain ⟨xs, n1, rfl, hy, -, hlen, hf⟩ := DataW.trod_struct Try.underlying47 h
    match xs, hlen with
    | [y0, y1, y2], _ =>
      have f0 : DataW.trod enc Try.prog w 0 sp held n1 3 ((([c0, c1, c2] : List Value).drop 0).take (Try.prog.cellsOf 3)) = some y0 := hf 0 _ rfl
      have f1 : DataW.trod enc Try.prog w 0 sp held n1 3 ((([c0, c1, c2] : List Value).drop 1).take (Try.prog.cellsOf 3)) = some y1 := hf 1 _ rfl
      have f2 : DataW.trod enc Try.prog w 0 sp held n1 45 ((([c0, c1, c2] : List Value).drop 2).take (Try.prog.cellsOf 45)) = some y2 := hf 2 _ rfl
      rw [cells3] at f0 f1
      rw [cells35] at f2
      obtain ⟨k0, e0, g0, -⟩ := DataW.trod_int Try.underlying3 (show DataW.trod enc Try.prog w 0 sp held n1 3 [c0] = some y0 from f0)
      obtain ⟨k1, e1, g1, -⟩ := DataW.trod_int Try.underlying3 (show DataW.trod enc Try.prog w 0 sp held n1 3 [c1] = some y1 from f1)
      simp only [List.cons.injEq, and_true] at e0 e1
      have f2' : DataW.trod enc Try.prog w 0 sp held n1 45 [c2] = some y2 := f2
      obtain ⟨ad, m, c, rfl⟩ : ∃ ad m c, c2 = .slice ad m c := by
        rcases DataW.trod_slice Try.underlying45 f2' with ⟨h1, -⟩ | ⟨a, len, cap, _, _, _, -, h1, -⟩
        · simp only [List.cons.injEq, and_true] at h1
          exact ⟨_, _, _, h1⟩
        · simp only [List.cons.injEq, and_true] at h1
          exact ⟨_, _, _, h1⟩
      obtain ⟨l, rfl, hrow, hw⟩ := acSl_of f2'
      refine ⟨⟨k0, k1, l, .slice ad l.length c⟩, by rw [e0, e1]; rfl, hrow, fun R hR => hw R fun q hq => hR q ?_⟩
      rw [hy]
      simp only [DataW.weights, Try.underlying47, List.map_cons, List.map_nil, DataW.weightsEach]
      exact List.mem_append_right _ (List.mem_append_right _ (List.mem_append_left _ hq))

theorem lk_row {n : Nat} (g : Nat) : ∀ (elems : List (DataW H × List MemPlace)) (o : Nat),
    (∀ i, i < elems.length → (w.cells? 0 ⟨g, o + i * 3, none⟩ 3).bind (DataW.trod enc Try.prog w 0 sp held n 47) = elems[i]?) →
    ∃ l : List Lj, l.length = elems.length ∧ (∀ q u, (l.flatMap Lj.vals)[q]? = some u → w.cell? ⟨g, o + q, none⟩ = some u) ∧ (∀ x ∈ l, RowSl Ac.vals w x.acts x.v) ∧ ∀ R, (∀ y ∈ elems, ∀ q ∈ y.1.weights Try.prog 47, q ≤ R) → ∀ x ∈ l, x.acts.length * 16 ≤ R
  | [], o, _ => ⟨[], rfl, (fun q u hq => by simp at hq), (fun x hx => by simp at hx), fun R _ x hx => by simp at hx⟩
  | y :: r, o, h => by
    have h0 := h 0 (by simp)
    simp only [Nat.zero_mul, Nat.add_zero, List.getElem?_cons_zero] at h0
    obtain ⟨cs, hc, ht⟩ := Option.bind_eq_some_iff.1 h0
    obtain ⟨hlen, hcell⟩ := cells_at hc
    obtain ⟨x, rfl, hx1, hx2⟩ := lk_one hlen ht
    obtain ⟨l, hl, hrow, ha, hw⟩ := lk_row g r (o + 3) (fun i hi => by
      have := h (i + 1) (by simp; omega)
      rw [show o + (i + 1) * 3 = o + 3 + i * 3 by omega] at this
      simpa using this)
    refine ⟨x :: l, by simp [hl], fun q u hq => ?_, fun z hz => ?_, fun R hR z hz => ?_⟩
    · rw [List.flatMap_cons] at hq
      by_cases h7 : q < 3
      · rw [List.getElem?_append_left (by rw [Lj.len]; exact h7)] at hq
        rw [hcell q h7]
        exact hq
      · rw [List.getElem?_append_right (by rw [Lj.len]; omega), Lj.len] at hq
        have := hrow (q - 3) u hq
        rw [show o + 3 + (q - 3) = o + q by omega] at this
        exact this
    · rcases List.mem_cons.1 hz with rfl | hz
      · exact hx1
      · exact ha z hz
    · rcases List.mem_cons.1 hz with rfl | hz
      · exact hx2 R (hR y (List.mem_cons_self ..))
      · exact hw R (fun y' hy' => hR y' (List.mem_cons_of_mem _ hy')) z hz

/-- A slice of jobs that can be read. -/
theorem lkSl_of_trod {ad : Option Addr} {n c : Nat} {d : DataW H} {ps : List MemPlace} (h : DataW.Trod enc Try.prog w 0 sp held 22 (.slice ad n c) d ps) : ∃ l : List Lj, n = l.length ∧ LkSl w l (.slice ad n c) ∧ ∀ R, (∀ q ∈ d.weights Try.prog 22, q ≤ R) → ∀ x ∈ l, x.acts.length * 16 ≤ R := by
  obtain ⟨q, hq⟩ := h
  have hcs : (Value.slice ad n c).cells.toList = [.slice ad n c] := rfl
  rw [hcs] at hq
  rcases DataW.trod_slice Try.underlying22 hq with ⟨h1, -⟩ | ⟨a, len, cap, elems, rest, n2, -, h1, hy, -, hlc, -, hle, hel, -, -⟩
  · simp only [List.cons.injEq, and_true, Value.slice.injEq] at h1
    obtain ⟨rfl, rfl, rfl⟩ := h1
    exact ⟨[], rfl, ⟨RowSl.nil _ _, fun x hx => by simp at hx⟩, fun R _ x hx => by simp at hx⟩
  · simp only [List.cons.injEq, and_true, Value.slice.injEq] at h1
    obtain ⟨rfl, rfl, rfl⟩ := h1
    subst hle
    simp only [cells44] at hel
    simp only [Prod.mk.injEq] at hy
    cases elems with
    | nil => exact ⟨[], rfl, ⟨⟨_, _, rfl, (fun e => by cases e), Nat.zero_le _, .inl rfl⟩, fun x hx => by simp at hx⟩, fun R _ x hx => by simp at hx⟩
    | cons z r =>
      have hz := hel 0 (by simp)
      obtain ⟨cs0, hc0, ht0⟩ := Option.bind_eq_some_iff.1 hz
      obtain ⟨-, hlen0, hpl⟩ := World.cells?_some hc0
      obtain ⟨x, rfl, -⟩ := lk_one hlen0 (by simpa using ht0)
      have hpa := plain_addr (w := w) (a := a) (v := .int .i64 x.a) (by simpa [Addr.add, Lj.vals] using hpl 0 (by omega))
      obtain ⟨l, hl, hrow, ha, hw⟩ := lk_row (n := n2) a.block (z :: r) a.off (fun i hi => by
        have := hel i hi
        rw [hpa, add_plain'] at this
        exact this)
      refine ⟨l, hl.symm, ⟨⟨some a, c, by rw [hl], (fun e => by cases e), by omega, .inr ⟨a.block, a.off, by rw [← hpa], hrow⟩⟩, ha⟩, fun R hR => hw R fun y hy2 q hq2 => hR q ?_⟩
      rw [hy.1]
      simp only [DataW.weights, Try.underlying22]
      exact List.mem_cons_of_mem _ (List.mem_append_left _ (weightsAll_mem (List.mem_map_of_mem hy2) q hq2))
end
end Go.Proofs.Ytcmoehednkaehah
