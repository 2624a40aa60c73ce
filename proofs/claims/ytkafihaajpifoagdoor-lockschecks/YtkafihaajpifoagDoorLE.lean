import Derived.Test.YtkafihaajpifoagDoorLD
namespace Go.Proofs.YtkafihaajpifoagDoor
open Go.ChangeShapes Go.WideShapes Go.ChangeAt Go.RowKit

theorem Check_ends {w : World} {g : Nat} {c k : Value} {a : Act} (h : w.heap[g]? = some (.cells #[c, k] 25 (0, 0))) (h3 : a.tmps[2]?.getD undef = .pointer (some ⟨g, 0, none⟩)) :
    (results Tryd.f18 a.tmps).run Tryd.prog w = .ok (.agg #[c, k]) w := by
  obtain ⟨c1, f1, l1⟩ := cells_of (l := [_, _]) h
  have c10 := c1 0 _ rfl
  have c11 := c1 1 _ rfl
  simp [results, Tryd.results18, go_sem, h3, c10, c11]

theorem FB.res2 {w W : World} {g : Nat} (h : FB w W g) : W.cell? ⟨g, 0, none⟩ = some (.int .i64 0) ∧ W.cell? ⟨g, 1, none⟩ = some (.int .i64 0) ∧ W.frozen? ⟨g, 0, none⟩ = false ∧ W.frozen? ⟨g, 1, none⟩ = false ∧ g < W.heap.size := by
  obtain ⟨rs1, rf1, rl1⟩ := cells_of (l := [_, _]) h.res
  exact ⟨rs1 0 _ rfl, rs1 1 _ rfl, rf1 0, rf1 1, rl1⟩

/-- Acts are being checked. -/
structure Chk (w W : World) (st : List Int) : Prop where
  fb : FB w W w.heap.size
  held : ∃ tv, W.heap[w.heap.size + 1]? = some (.cells #[tv] 66 (0, 0)) ∧ Stk W (w.heap.size + 2) tv st

theorem Chk.grow {w W W' : World} {st : List Int} (h : Chk w W st) (hb : Below W.heap.size W W') : Chk w W' st := by
  obtain ⟨tv, h1, h2⟩ := h.held
  exact ⟨h.fb.grow hb, tv, (hb.block _ (Array.getElem?_eq_some_iff.1 h1).1).trans h1, h2.grow hb⟩

theorem Chk.lt {w W : World} {st : List Int} (h : Chk w W st) : w.heap.size + 2 ≤ W.heap.size := by
  obtain ⟨tv, h1, -⟩ := h.held
  have := (Array.getElem?_eq_some_iff.1 h1).1
  omega

theorem Chk.did {w W W' : World} {st : List Int} {x : Ac} (h : Chk w W st) (hd : DoPost (w.heap.size + 2) (w.heap.size + 1) W W' st x) : FB w W' w.heap.size ∧ (doC st x = 0 → Chk w W' (doS st x)) := by
  have hf : FB w W' w.heap.size := ⟨h.fb.bel.trans (hd.1.below (by omega) (by omega)), (hd.1.block _ (by omega) (by omega)).trans h.fb.res, Nat.le_refl _⟩
  exact ⟨hf, fun h0 => ⟨hf, hd.2 h0⟩⟩

set_option maxRecDepth 20000 in
theorem Check_many (w : World) (n c : Nat) (ad : Option Addr) (h : 200 < n) : Calls Tryd.prog 18 #[.slice ad n c] w fun r w' => r = .returned (.agg #[.int .i64 2, .int .i64 0]) ∧ Below w.heap.size w w' := by
  have hw : (200 : Int) < (n : Int) := by omega
  go_enter Tryd.func18, Tryd.ntmps18
  go_wp2_with fail
  refine bodyPost_ret (Check_ends (heap_alloc_new _ _) rfl) rfl ?_
  exact ⟨rfl, below_new _ _⟩

theorem doS_len (st : List Int) (x : Ac) : (doS st x).length ≤ st.length + 1 := by
  unfold doS
  split
  · simp
  · split
    · simp; omega
    · omega

set_option maxRecDepth 20000 in
set_option maxHeartbeats 4000000 in
theorem Check_few (w : World) (l : List Ac) (ad : Option Addr) (c : Nat) (h8 : l.length ≤ 200) (hv : RowSl Ac.vals w l (.slice ad l.length c)) : Calls Tryd.prog 18 #[.slice ad l.length c] w fun r w' => r = .returned (.agg #[.int .i64 (chkA l [] 0).1, .int .i64 (chkA l [] 0).2]) ∧ Below w.heap.size w w' := by
  have hw : ¬ ((200 : Int) < (l.length : Int)) := by omega
  obtain ⟨_, _, e, -, hcap, hrow⟩ := hv
  cases e
  have HR : Hid (l = [] ∨ ∃ b o, ad = some ⟨b, o, none⟩ ∧ ∀ q u, (l.flatMap Ac.vals)[q]? = some u → w.cell? ⟨b, o + q, none⟩ = some u) := hrow
  clear hrow
  have HDo := do_any
  unfold Ac.val at HDo
  go_enter Tryd.func18, Tryd.ntmps18
  go_wp2_with fail
  go_loopw [13] (fun i wr => ∃ (j : Nat) (st : List Int), j ≤ l.length ∧ i = .int .i64 j ∧ st.length ≤ j ∧ Chk w wr st ∧ chkA (l.drop j) st j = chkA l [] 0) (fun i _ => l.length - (intOf i).toNat)
  case atStart =>
    refine ⟨0, [], Nat.zero_le _, rfl, Nat.zero_le _, ⟨(FB.start w).grow (below_new _ _), .slice none 0 0, ?_, ⟨rfl, .inl ⟨rfl, rfl⟩⟩⟩, rfl⟩
    have := heap_alloc_new (w.alloc (.cells #[.int .i64 0, .int .i64 0] 25)) (.cells #[.slice none 0 0] 66)
    simpa using this
  case round =>
    obtain ⟨j, st, hj, rfl, hst, hb, hf⟩ := hrel
    by_cases hlt : j < l.length
    · obtain ⟨x, hx, hd⟩ := drop_at hlt
      rw [hd, chkA] at hf
      rcases HR.out with h | ⟨b, o, rfl, hrow⟩
      · rw [h] at hlt; simp at hlt
      have ha := ac_at (fun q u hq => below_cell hb.fb.bel (hrow q u hq)) hx
      obtain ⟨c0, c1⟩ := ha
      have lb : b < wr.heap.size := World.block_lt_of_cell? _ _ c0
      have hb1 := hb.grow (below_new wr (.cells #[.int .i64 x.d, .int .i64 x.n] 48))
      obtain ⟨tv, k1, k2⟩ := hb1.held
      have HW := HDo _ (w.heap.size + 2) (w.heap.size + 1) tv st x k1 (by omega) hb1.lt k2 (by omega)
      have HB : Hid (Chk w (wr.alloc (.cells #[.int .i64 x.d, .int .i64 x.n] 48)) st) := hb1
      have HF : Hid ((if doC st x = 0 then chkA (l.drop (j + 1)) (doS st x) (j + 1) else (doC st x, (j : Int))) = chkA l [] 0) := hf
      have HL : Hid (st.length ≤ j) := hst
      have hji : (j : Int) < (l.length : Int) := by omega
      clear hb hf hrow hb1 k1 k2 hst
      generalize hz : doC st x = z at *
      have HZ : Hid (doC st x = z) := hz
      clear hz
      go_wp2_with (go_at_call 34; refine HW.mono ?_; rintro r w1 ⟨rfl, hd1⟩; obtain ⟨q1, q2⟩ := HB.out.did hd1; have H1 : Hid (FB w w1 w.heap.size ∧ (doC st x = 0 → Chk w w1 (doS st x))) := ⟨q1, q2⟩; obtain ⟨r10, r11, f10, f11, rl⟩ := q1.res2; clear hd1 q1 q2 HW)
      · have hz0 : ¬ z = 0 := by simp_all
        have e := HF.out
        rw [if_neg hz0] at e
        refine bodyPost_ret (Check_ends (set_two H1.out.1.res) rfl) rfl ?_
        exact ⟨by rw [← e], H1.out.1.set _ _⟩
      · have hz0 : z = 0 := by simp_all
        have e := HF.out
        rw [if_pos hz0] at e
        refine ⟨⟨j + 1, doS st x, by omega, by simp, ?_, H1.out.2 (HZ.out.trans hz0), e⟩, by simp [intOf]; omega⟩
        have := doS_len st x
        have := HL.out
        omega
    · have hje : j = l.length := by omega
      subst hje
      rw [List.drop_length, chkA] at hf
      have H1 : Hid (FB w wr w.heap.size) := hb.fb
      obtain ⟨r10, r11, f10, f11, rl⟩ := hb.fb.res2
      obtain ⟨tv, k1, k2⟩ := hb.held
      obtain ⟨kc, kf, kl⟩ := cells_of (l := [_]) k1
      have kc0 := kc 0 _ rfl
      obtain ⟨tad, tc, rfl⟩ := owns_value k2
      by_cases hnil : st = []
      · subst hnil
        have HF : Hid ((0, 0) = chkA l [] 0) := hf
        clear hf hb k1 k2 kc kf hst
        go_wp2_with fail
        refine bodyPost_ret (Check_ends (set_two H1.out.res) rfl) rfl ?_
        exact ⟨by rw [← HF.out], H1.out.set _ _⟩
      · rw [if_neg hnil] at hf
        have HF : Hid ((10, (l.length : Int)) = chkA l [] 0) := hf
        have hpos : 0 < st.length := List.length_pos_iff.2 hnil
        clear hf hb k1 k2 kc kf hst
        go_wp2_with fail
        refine bodyPost_ret (Check_ends (set_two H1.out.res) rfl) rfl ?_
        exact ⟨by rw [← HF.out], H1.out.set _ _⟩
/-- locks.Check. -/
theorem Check_any (w : World) (l : List Ac) (v : Value) (hv : RowSl Ac.vals w l v) : Calls Tryd.prog 18 #[v] w fun r w' => r = .returned (.agg #[.int .i64 (chkActs l).1, .int .i64 (chkActs l).2]) ∧ Below w.heap.size w w' := by
  obtain ⟨ad, c, rfl⟩ := hv.len
  unfold chkActs
  by_cases h : 200 < l.length
  · rw [if_pos h]
    exact Check_many w l.length c ad h
  · rw [if_neg h]
    exact Check_few w l ad c (by omega) hv

end Go.Proofs.YtkafihaajpifoagDoor
