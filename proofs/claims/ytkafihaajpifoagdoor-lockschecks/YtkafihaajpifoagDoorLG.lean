import Derived.Test.YtkafihaajpifoagDoorLF
namespace Go.Proofs.YtkafihaajpifoagDoor
open Go.ChangeShapes Go.WideShapes Go.ChangeAt Go.RowKit

theorem Longest_ends {w : World} {g : Nat} {c k p : Value} {a : Act} (h : w.heap[g]? = some (.cells #[c, k] 25 (0, 0))) (h2 : a.tmps[2]?.getD undef = p) (h3 : a.tmps[3]?.getD undef = .pointer (some ⟨g, 0, none⟩)) :
    (results Tryd.f13 a.tmps).run Tryd.prog w = .ok (.tuple #[p, .agg #[c, k]]) w := by
  obtain ⟨c1, f1, l1⟩ := cells_of (l := [_, _]) h
  have c10 := c1 0 _ rfl
  have c11 := c1 1 _ rfl
  simp [results, Tryd.results13, go_sem, h2, h3, c10, c11]

theorem chkA_zero : ∀ (l : List Ac) (st : List Int) (k : Nat), (chkA l st k).1 = 0 → chkA l st k = (0, 0)
  | [], st, k, h => by
    rw [chkA] at h ⊢
    by_cases h0 : st = []
    · rw [if_pos h0]
    · rw [if_neg h0] at h; cases h
  | a :: r, st, k, h => by
    rw [chkA] at h ⊢
    by_cases h0 : doC st a = 0
    · rw [if_pos h0] at h ⊢
      exact chkA_zero r _ _ h
    · rw [if_neg h0] at h
      exact absurd h h0

theorem chkActs_zero {l : List Ac} (h : (chkActs l).1 = 0) : chkActs l = (0, 0) := by
  unfold chkActs at h ⊢
  by_cases h0 : 200 < l.length
  · rw [if_pos h0] at h; cases h
  · rw [if_neg h0] at h ⊢
    exact chkA_zero _ _ _ h

theorem max_if (b t : Int) : (if b < t then t else b) = max b t := by
  split <;> omega

/-- How far the stretches have been measured. -/
structure Lon (l : List Ac) (j : Nat) (st : List Int) (t b : Int) : Prop where
  jl : j ≤ l.length
  sl : st.length ≤ j
  t0 : 0 ≤ t
  t1 : t ≤ 1000 * j
  b0 : 0 ≤ b
  b1 : b ≤ 1000 * j
  tb : t ≤ b
  nil : st = [] → t = 0
  ok : chkA (l.drop j) st j = (0, 0)
  lon : lonF (l.drop j) st.length t b = longF l

theorem Lon.start {l : List Ac} (h : chkA l [] 0 = (0, 0)) : Lon l 0 [] 0 0 := ⟨Nat.zero_le _, Nat.le_refl _, Int.le_refl _, by omega, Int.le_refl _, by omega, Int.le_refl _, fun _ => rfl, h, rfl⟩

theorem Lon.stop {l : List Ac} {st : List Int} {t b : Int} (h : Lon l l.length st t b) : b = longF l := by
  have := h.lon
  rw [List.drop_length, lonF] at this
  exact this

/-- Another act. -/
theorem Lon.step {l : List Ac} {j : Nat} {st : List Int} {t b : Int} (h : Lon l j st t b) (hlt : j < l.length) : ∃ x, l[j]? = some x ∧
    ((x.d = 2 ∧ Lon l (j + 1) (st ++ [x.n]) t (max b t)) ∨ (x.d = 3 ∧ ∃ st', st = st' ++ [x.n] ∧ ((st' = [] ∧ Lon l (j + 1) st' 0 (max b 0)) ∨ (st' ≠ [] ∧ Lon l (j + 1) st' t (max b t)))) ∨ (x.d = 1 ∧ 1 ≤ x.n ∧ x.n ≤ 1000 ∧ ((st = [] ∧ Lon l (j + 1) st 0 (max b 0)) ∨ (st ≠ [] ∧ Lon l (j + 1) st (t + x.n) (max b (t + x.n)))))) := by
  obtain ⟨x, hx, hd⟩ := drop_at hlt
  obtain ⟨h1, h2, h3, h4, h5, h6, h7, h8, h9, h10⟩ := h
  rw [hd] at h9 h10
  obtain ⟨hf, hk⟩ := chkA_fine h9
  refine ⟨x, hx, ?_⟩
  rw [lonF] at h10
  generalize he : doS st x = s' at hf hk
  rcases hf with ⟨e, e1, e2⟩ | ⟨e, e1, e2, e3⟩ | ⟨e, _, e1⟩
  · refine .inr (.inr ⟨e, e1, e2, ?_⟩)
    rw [if_neg (by omega), if_neg (by omega)] at h10
    by_cases hs : st = []
    · subst hs
      rw [if_pos (by simp)] at h10
      exact .inl ⟨rfl, by omega, by simp, by omega, by omega, by omega, by omega, by omega, fun _ => rfl, hk, h10⟩
    · have hp := List.length_pos_iff.2 hs
      rw [if_neg (by omega)] at h10
      exact .inr ⟨hs, by omega, by omega, by omega, by omega, by omega, by omega, by omega, fun e => absurd e hs, hk, h10⟩
  · refine .inl ⟨e, by omega, by simp; omega, by omega, by omega, by omega, by omega, by omega, fun e => by simp at e, hk, ?_⟩
    rw [if_pos e] at h10
    rw [List.length_append]
    exact h10
  · subst e1
    refine .inr (.inl ⟨e, s', rfl, ?_⟩)
    have hlen : (s' ++ [x.n]).length = s'.length + 1 := by simp
    rw [if_neg (by omega), if_pos e, hlen] at h10
    rw [hlen] at h2
    by_cases hs : s' = []
    · subst hs
      rw [if_pos (by simp)] at h10
      exact .inl ⟨rfl, by omega, by simp, by omega, by omega, by omega, by omega, by omega, fun _ => rfl, hk, h10⟩
    · have hp := List.length_pos_iff.2 hs
      rw [if_neg (by omega)] at h10
      exact .inr ⟨hs, by omega, by omega, by omega, by omega, by omega, by omega, by omega, fun e => absurd e hs, hk, by simpa using h10⟩

set_option maxRecDepth 20000 in
set_option maxHeartbeats 4000000 in
theorem Longest_bad (w : World) (l : List Ac) (v : Value) (hv : RowSl Ac.vals w l v) (h0 : (chkActs l).1 ≠ 0) : Calls Tryd.prog 13 #[v] w fun r w' => r = .returned (.tuple #[.int .i64 0, .agg #[.int .i64 (chkActs l).1, .int .i64 (chkActs l).2]]) ∧ Below w.heap.size w w' := by
  have HF : Hid (FB w (w.alloc (.cells #[.int .i64 0, .int .i64 0] 25)) w.heap.size) := FB.start w
  have HC := Check_any (w.alloc (.cells #[.int .i64 0, .int .i64 0] 25)) l v (hv.below (below_new _ _))
  obtain ⟨ad, c, rfl⟩ := hv.len
  clear hv
  generalize chkActs l = z at *
  obtain ⟨z1, z2⟩ := z
  dsimp only at h0 HC ⊢
  have hzb : (z1 != 0) = true := by simpa using h0
  go_enter Tryd.func13, Tryd.ntmps13
  go_wp2_with (go_at_call 18; refine HC.mono ?_; rintro r w1 ⟨rfl, hb1⟩; have H1 : Hid (FB w w1 w.heap.size) := HF.out.grow hb1; obtain ⟨r10, r11, f10, f11, rl⟩ := H1.out.res2; clear hb1 HC)
  go_region
  all_goals go_wp2_with fail
  all_goals
    refine bodyPost_ret (Longest_ends (set_two_new _ H1.out.res) rfl rfl) rfl ?_
    exact ⟨rfl, (H1.out.set_new _ _ _).drew⟩

set_option maxRecDepth 20000 in
set_option maxHeartbeats 4000000 in
theorem Longest_good (w : World) (l : List Ac) (v : Value) (hv : RowSl Ac.vals w l v) (h0 : chkActs l = (0, 0)) : Calls Tryd.prog 13 #[v] w fun r w' => r = .returned (.tuple #[.int .i64 (longF l), .agg #[.int .i64 0, .int .i64 0]]) ∧ Below w.heap.size w w' := by
  have HF : Hid (FB w (w.alloc (.cells #[.int .i64 0, .int .i64 0] 25)) w.heap.size) := FB.start w
  have HC := Check_any (w.alloc (.cells #[.int .i64 0, .int .i64 0] 25)) l v (hv.below (below_new _ _))
  rw [h0] at HC
  obtain ⟨hl, hok⟩ := chkActs_fine h0
  obtain ⟨ad, c, rfl, -, hcap, hrow⟩ := hv
  have HR : Hid ((l = [] ∨ ∃ b o, ad = some ⟨b, o, none⟩ ∧ ∀ q u, (l.flatMap Ac.vals)[q]? = some u → w.cell? ⟨b, o + q, none⟩ = some u) ∧ chkA l [] 0 = (0, 0)) := ⟨hrow, hok⟩
  clear hrow hok h0
  go_enter Tryd.func13, Tryd.ntmps13
  go_wp2_with (go_at_call 18; refine HC.mono ?_; rintro r w1 ⟨rfl, hb1⟩; have H1 : Hid (FB w w1 w.heap.size) := HF.out.grow hb1; clear hb1 HC)
  go_loopw [5, 6, 7, 18] (fun vb vt vh vi wr => ∃ (j : Nat) (st : List Int) (t b : Int), vb = .int .i64 b ∧ vt = .int .i64 t ∧ vh = .int .i64 (st.length : Int) ∧ vi = .int .i64 j ∧ FB w wr w.heap.size ∧ Lon l j st t b) (fun _ _ _ i _ => l.length - (intOf i).toNat)
  case atStart => exact ⟨0, [], 0, 0, rfl, rfl, rfl, rfl, H1.out.grow (below_new _ _), Lon.start HR.out.2⟩
  case round =>
    obtain ⟨j, st, t, b, rfl, rfl, rfl, rfl, hb, hn⟩ := hrel
    have HB : Hid (FB w wr w.heap.size ∧ Lon l j st t b) := ⟨hb, hn⟩
    have hj := hn.jl
    by_cases hlt : j < l.length
    · obtain ⟨x, hx, hstep⟩ := hn.step hlt
      rcases HR.out.1 with h | ⟨g, o, rfl, hrow⟩
      · rw [h] at hlt; simp at hlt
      have ha := ac_at (fun q u hq => below_cell hb.bel (hrow q u hq)) hx
      obtain ⟨d, n⟩ := x
      obtain ⟨c0, c1⟩ := ha
      dsimp only at c0 c1 hstep
      have lb : g < wr.heap.size := World.block_lt_of_cell? _ _ c0
      have hji : (j : Int) < (l.length : Int) := by omega
      have q1 := hn.t0
      have q2 := hn.t1
      have q3 := hn.b0
      have q4 := hn.b1
      have q5 := hn.sl
      clear hb hn hrow hx
      rcases hstep with ⟨rfl, hN⟩ | ⟨rfl, st', rfl, ⟨rfl, hN⟩ | ⟨hne, hN⟩⟩ | ⟨rfl, n1, n2, ⟨rfl, hN⟩ | ⟨hne, hN⟩⟩
      · have HN : Hid (Lon l (j + 1) (st ++ [n]) t (max b t)) := hN
        have z1 : ((st.length : Int) + 1 == 0) = false := by simp; omega
        clear hN
        go_wp2_with fail
        exact ⟨⟨j + 1, st ++ [n], t, max b t, by rw [max_if], rfl, by simp, by simp, HB.out.1.grow (below_new _ _), HN.out⟩, by simp [intOf]; omega⟩
      · have HN : Hid (Lon l (j + 1) [] 0 (max b 0)) := hN
        clear hN
        go_wp2_with fail
        exact ⟨⟨j + 1, [], 0, max b 0, by first | rw [max_if] | (congr 1; omega), rfl, by simp, by simp, HB.out.1.grow (below_new _ _), HN.out⟩, by simp [intOf]; omega⟩
      · have HN : Hid (Lon l (j + 1) st' t (max b t)) := hN
        have hp := List.length_pos_iff.2 hne
        have z1 : ((st'.length : Int) == 0) = false := by simp; omega
        have q6 : st'.length + 1 ≤ j := by simpa using q5
        have q7 : j ≤ 200 := by omega
        clear hN q5
        rw [show ((st' ++ [n]).length : Int) = (st'.length : Int) + 1 by simp]
        go_wp2_with fail
        exact ⟨⟨j + 1, st', t, max b t, by rw [max_if], rfl, by simp, by simp, HB.out.1.grow (below_new _ _), HN.out⟩, by simp [intOf]; omega⟩
      · have HN : Hid (Lon l (j + 1) [] 0 (max b 0)) := hN
        clear hN
        go_wp2_with fail
        exact ⟨⟨j + 1, [], 0, max b 0, by first | rw [max_if] | (congr 1; omega), rfl, by simp, by simp, HB.out.1.grow (below_new _ _), HN.out⟩, by simp [intOf]; omega⟩
      · have HN : Hid (Lon l (j + 1) st (t + n) (max b (t + n))) := hN
        have hp := List.length_pos_iff.2 hne
        have z1 : ((st.length : Int) == 0) = false := by simp; omega
        clear hN
        go_wp2_with fail
        exact ⟨⟨j + 1, st, t + n, max b (t + n), by rw [max_if], rfl, by simp, by simp, HB.out.1.grow (below_new _ _), HN.out⟩, by simp [intOf]; omega⟩
    · have hje : j = l.length := by omega
      subst hje
      have HE : Hid (b = longF l) := hn.stop
      obtain ⟨r10, r11, f10, f11, rl⟩ := hb.res2
      clear hb hn
      go_wp2_with fail
      refine bodyPost_ret (Longest_ends (set_two HB.out.1.res) rfl rfl) rfl ?_
      exact ⟨by rw [← HE.out]; rfl, HB.out.1.set _ _⟩

/-- locks.Longest. -/
theorem Longest_any (w : World) (l : List Ac) (v : Value) (hv : RowSl Ac.vals w l v) : Calls Tryd.prog 13 #[v] w fun r w' => r = .returned (.tuple #[.int .i64 (if (chkActs l).1 = 0 then longF l else 0), .agg #[.int .i64 (chkActs l).1, .int .i64 (chkActs l).2]]) ∧ Below w.heap.size w w' := by
  by_cases h0 : (chkActs l).1 = 0
  · have e := chkActs_zero h0
    rw [if_pos h0, e]
    exact Longest_good w l v hv e
  · rw [if_neg h0]
    exact Longest_bad w l v hv h0
end Go.Proofs.YtkafihaajpifoagDoor
