import Derived.Test.YtccoobcggbbciaiJB
import Derived.OwnWalk
namespace Go.Proofs.Ytccoobcggbbciai
open Go.ChangeShapes Go.WideShapes Go.ChangeAt Go.RowKit

theorem info3' : (Try.prog.info? 3).map (fun i => (i.zero, i.size, i.bytes)) = some (some (.int .i64 0), 1, 8) := by kernel_rfl

def zerosV (n : Nat) : List Value := (List.replicate n 0).map (fun z : Int => Value.int .i64 z)

theorem made_zeros (n : Nat) : madeCells (Value.int .i64 0).cells n = (zerosV n).toArray := by
  unfold madeCells zerosV
  apply Array.ext
  · simp
  · intro i h1 h2
    simp [Value.cells, Nat.mod_one]

theorem make_zeros (n : Nat) (hn : n ≤ 4194304) (W : World) : (Instr.makeSlice 24 (.int .i64 (n : Int)) (.int .i64 (n : Int))).run Try.prog W = .ok (.slice (some ⟨W.heap.size, 0, none⟩) n n) (W.alloc (.cells (zerosV n).toArray 3)) := by
  obtain ⟨i0, hi0, hz0, hz1, hz2⟩ := info_parts info3'
  have h := run_make (P := Try.prog) W 24 3 i0 _ Try.underlying24 hi0 hz0 .i64 .i64 (n : Int) (n : Int) (by omega) (by omega) (by rw [hz2]; omega) (by omega)
  rw [hz1, Nat.mul_one, Int.toNat_natCast, made_zeros] at h
  exact h

/-- When each task may come next. -/
def soonVs (l : List Ta) (past : List Co) : List Value := (List.range l.length).map (fun k : Nat => Value.int .i64 (soonOf l past (k : Int)))

theorem soonVs_nil (l : List Ta) : soonVs l [] = zerosV l.length := by
  unfold soonVs zerosV
  apply List.ext_getElem
  · simp
  · intro i h1 h2
    simp [soonOf, lastOf]

theorem soonVs_at {l : List Ta} {past : List Co} {k : Nat} (h : k < l.length) : (soonVs l past)[k]? = some (.int .i64 (soonOf l past (k : Int))) := by
  unfold soonVs
  simp [h]

theorem soonVs_set {l : List Ta} {past : List Co} {c : Co} {k : Nat} (hk : c.k = (k : Int)) : (soonVs l past).set k (.int .i64 (c.a + (l.getD k ta0).t)) = soonVs l (c :: past) := by
  apply List.ext_getElem
  · simp [soonVs]
  · intro i h1 h2
    simp only [soonVs, List.getElem_set, List.getElem_map, List.getElem_range, soonOf_cons, hk]
    by_cases e : k = i
    · subst e; simp
    · rw [if_neg e, if_neg (by omega)]

/-- What Legal holds while it goes. -/
structure LG (w wr : World) (M : Nat) (l : List Ta) (past : List Co) : Prop where
  fb : FB w wr w.heap.size
  row : wr.heap[M]? = some (.cells (soonVs l past).toArray 3 (0, 0))
  low : w.heap.size < M

theorem LG.grow {w wr wr' : World} {M : Nat} {l : List Ta} {past : List Co} (h : LG w wr M l past) (hb : Below wr.heap.size wr wr') : LG w wr' M l past :=
  ⟨h.fb.grow hb, (hb.block M (Array.getElem?_eq_some_iff.1 h.row).1).trans h.row, h.low⟩

theorem LG.set {w wr : World} {M : Nat} {l : List Ta} {past : List Co} {c : Co} {k : Nat} (h : LG w wr M l past) (hc : c.k = (k : Int)) : LG w (wr.setCell ⟨M, k, none⟩ (.int .i64 (c.a + (l.getD k ta0).t))) M l (c :: past) := by
  refine ⟨⟨h.fb.bel.setCell (by have := h.low; show _ ≤ M; omega) _, ?_, h.fb.low⟩, ?_, h.low⟩
  · rw [Below.heap_setCell _ _ _ _ (by have := h.low; show _ ≠ M; omega)]
    exact h.fb.res
  · rw [setCell_at h.row]
    congr 2
    rw [← soonVs_set hc]
    simp

theorem set_alloc2 {w9 : World} {g : Nat} {a b x y : Value} {o : Obj} (h : w9.heap[g]? = some (.cells #[x, y] 29 (0, 0))) : (((w9.setCell ⟨g, 0, none⟩ a).setCell ⟨g, 1, none⟩ b).alloc o).heap[g]? = some (.cells #[a, b] 29 (0, 0)) := by
  have h2 := set_two (a := a) (b := b) h
  rw [Below.heap_alloc _ _ _ (Array.getElem?_eq_some_iff.1 h2).1]
  exact h2

theorem Legal_ends {w : World} {g : Nat} {c k : Value} {a : Act} (h : w.heap[g]? = some (.cells #[c, k] 29 (0, 0))) (h3 : a.tmps[4]?.getD undef = .pointer (some ⟨g, 0, none⟩)) :
    (results Try.f25 a.tmps).run Try.prog w = .ok (.agg #[c, k]) w := by
  obtain ⟨c1, f1, l1⟩ := cells_of (l := [_, _]) h
  have c10 := c1 0 _ rfl
  have c11 := c1 1 _ rfl
  simp [results, Try.results25, go_sem, h3, c10, c11]

theorem legOne_4 {l : List Ta} {past : List Co} {c : Co} (h : within c.k 0 ((l.length : Int) - 1) = false) : legOne l past c = 4 := by
  unfold legOne; rw [if_pos]
  simp [within] at h
  omega
theorem legOne_3 {l : List Ta} {past : List Co} {c : Co} (h : within c.k 0 ((l.length : Int) - 1) = true) (h2 : within c.a 0 20000 = false) : legOne l past c = 3 := by
  simp [within] at h h2
  unfold legOne; rw [if_neg (by omega), if_pos (by omega)]
theorem legOne_12 {l : List Ta} {past : List Co} {c : Co} (h : within c.k 0 ((l.length : Int) - 1) = true) (h2 : within c.a 0 20000 = true) (h3 : c.a < nowOf past ∨ c.a < soonOf l past c.k) : legOne l past c = 12 := by
  simp [within] at h h2
  unfold legOne; rw [if_neg (by omega), if_neg (by omega), if_pos h3]
theorem legOne_0 {l : List Ta} {past : List Co} {c : Co} (h : within c.k 0 ((l.length : Int) - 1) = true) (h2 : within c.a 0 20000 = true) (h3 : ¬ (c.a < nowOf past ∨ c.a < soonOf l past c.k)) : legOne l past c = 0 := by
  simp [within] at h h2
  unfold legOne; rw [if_neg (by omega), if_neg (by omega), if_neg h3]

theorem rev_at {α : Type} {l : List α} {j : Nat} {x : α} (h : l[j]? = some x) : (l.take (j + 1)).reverse = x :: (l.take j).reverse := by
  rw [List.take_add_one, h]
  simp

set_option maxRecDepth 20000 in
set_option maxHeartbeats 4000000 in
theorem Legal_bad (w : World) (l : List Ta) (v v2 : Value) (hv : RowSl Ta.vals w l v) (h0 : (chkF l).1 ≠ 0) : Calls Try.prog 25 #[v, v2] w fun r w' => r = .returned (.agg #[.int .i64 (chkF l).1, .int .i64 (chkF l).2]) ∧ Below w.heap.size w w' := by
  have HC := Check_any (w.alloc (.cells #[.int .i64 0, .int .i64 0] 29)) l v (hv.below (below_new _ _))
  obtain ⟨ad, c, rfl⟩ := hv.len
  generalize (chkF l).1 = z at *
  generalize (chkF l).2 = z2 at *
  have hzb : (z != 0) = true := by simpa using h0
  clear hv
  go_enter Try.func25, Try.ntmps25
  go_wp2_with (go_at_call 54; refine HC.mono ?_; rintro r w1 ⟨rfl, hb1⟩; have H1 : Hid (FB w w1 w.heap.size) := (FB.start w).grow hb1; obtain ⟨rs1, rf1, rl1⟩ := cells_of (l := [_, _]) H1.out.res; have r10 := rs1 0 _ rfl; have r11 := rs1 1 _ rfl; have f10 := rf1 0; have f11 := rf1 1; clear rs1 rf1 hb1 HC)
  refine bodyPost_ret (Legal_ends (set_alloc2 H1.out.res) rfl) rfl ?_
  exact ⟨rfl, (H1.out.set _ _).alloc (by have := (H1.out.set (.int .i64 z) (.int .i64 z2)).size; omega) _⟩

set_option maxRecDepth 20000 in
set_option maxHeartbeats 4000000 in
theorem Legal_many (w : World) (l : List Ta) (v : Value) (ad2 : Option Addr) (n c2 : Nat) (hv : RowSl Ta.vals w l v) (h0 : (chkF l).1 = 0) (hn : 4000 < n) : Calls Try.prog 25 #[v, .slice ad2 n c2] w fun r w' => r = .returned (.agg #[.int .i64 2, .int .i64 0]) ∧ Below w.heap.size w w' := by
  have HC := Check_any (w.alloc (.cells #[.int .i64 0, .int .i64 0] 29)) l v (hv.below (below_new _ _))
  obtain ⟨ad, c, rfl⟩ := hv.len
  rw [h0] at HC
  generalize (chkF l).2 = z2 at *
  have hn' : (4000 : Int) < (n : Int) := by omega
  clear hv
  go_enter Try.func25, Try.ntmps25
  go_wp2_with (go_at_call 54; refine HC.mono ?_; rintro r w1 ⟨rfl, hb1⟩; have H1 : Hid (FB w w1 w.heap.size) := (FB.start w).grow hb1; obtain ⟨rs1, rf1, rl1⟩ := cells_of (l := [_, _]) H1.out.res; have r10 := rs1 0 _ rfl; have r11 := rs1 1 _ rfl; have f10 := rf1 0; have f11 := rf1 1; clear rs1 rf1 hb1 HC)
  refine bodyPost_ret (Legal_ends (set_alloc2 H1.out.res) rfl) rfl ?_
  exact ⟨rfl, (H1.out.set _ _).alloc (by have := (H1.out.set (.int .i64 2) (.int .i64 0)).size; omega) _⟩

set_option maxRecDepth 20000 in
set_option maxHeartbeats 4000000 in
theorem Legal_walk (w : World) (l : List Ta) (cs : List Co) (v v2 : Value) (hv : RowSl Ta.vals w l v) (hv2 : RowSl Co.vals w cs v2) (h0 : (chkF l).1 = 0) (hn : cs.length ≤ 4000) : Calls Try.prog 25 #[v, v2] w fun r w' => r = .returned (.agg #[.int .i64 (legFrom l [] cs 0).1, .int .i64 (legFrom l [] cs 0).2]) ∧ Below w.heap.size w w' := by
  have HC := Check_any (w.alloc (.cells #[.int .i64 0, .int .i64 0] 29)) l v (hv.below (below_new _ _))
  obtain ⟨h1, h8, hst⟩ := chkF_ok h0
  rw [h0] at HC
  generalize (chkF l).2 = z2 at *
  obtain ⟨ad, c, rfl, -, hcap, hrow⟩ := hv
  rcases hrow with h | ⟨b, o, rfl, hrow⟩
  · rw [h] at h1; simp at h1
  obtain ⟨ad2, c2, rfl, -, hcap2, hrow2⟩ := hv2
  have HR : Hid ((∀ q u, (l.flatMap Ta.vals)[q]? = some u → w.cell? ⟨b, o + q, none⟩ = some u) ∧ (cs = [] ∨ ∃ b o, ad2 = some ⟨b, o, none⟩ ∧ ∀ q u, (cs.flatMap Co.vals)[q]? = some u → w.cell? ⟨b, o + q, none⟩ = some u) ∧ ∀ x ∈ l, stands x = true) := ⟨hrow, hrow2, hst⟩
  clear hrow hrow2 hst h0
  have hn' : ¬ (4000 : Int) < (cs.length : Int) := by omega
  have hmz := make_zeros l.length (by omega)
  go_enter Try.func25, Try.ntmps25
  go_wp2_with (go_at_call 54; refine HC.mono ?_; rintro r w1 ⟨rfl, hb1⟩; have H1 : Hid (FB w w1 w.heap.size) := (FB.start w).grow hb1; clear hb1 HC)
  have H2 : Hid (LG w ((w1.alloc (.cells #[.int .i64 0, .int .i64 z2] 29)).alloc (.cells (zerosV l.length).toArray 3)) (w1.heap.size + 1) l []) := by
    refine ⟨(H1.out.grow (below_new _ _)).grow (below_new _ _), ?_, ?_⟩
    · rw [soonVs_nil]
      simpa using heap_alloc_new (w1.alloc (.cells #[.int .i64 0, .int .i64 z2] 29)) (.cells (zerosV l.length).toArray 3)
    · have := H1.out.lt
      omega
  generalize w1.heap.size + 1 = M at *
  go_loopw [6, 25] (fun nw i wr => ∃ j : Nat, j ≤ cs.length ∧ i = .int .i64 j ∧ nw = .int .i64 (nowOf (cs.take j).reverse) ∧ LG w wr M l (cs.take j).reverse ∧ Past l (cs.take j).reverse ∧ legFrom l (cs.take j).reverse (cs.drop j) j = legFrom l [] cs 0) (fun _ i _ => cs.length - (intOf i).toNat)
  case atStart => exact ⟨0, Nat.zero_le _, rfl, rfl, H2.out, (fun c hc => by simp at hc), rfl⟩
  case round =>
    obtain ⟨j, hj, rfl, rfl, hg, hp, hf⟩ := hrel
    by_cases hlt : j < cs.length
    · obtain ⟨x, hx, hd⟩ := drop_at hlt
      rw [hd, legFrom] at hf
      rcases HR.out.2.1 with h | ⟨b2, o2, rfl, hrow2⟩
      · rw [h] at hlt; simp at hlt
      obtain ⟨c0, c1⟩ := co_at (fun q u hq => below_cell hg.fb.bel (hrow2 q u hq)) hx
      have lb2 : b2 < wr.heap.size := World.block_lt_of_cell? _ _ c0
      have HF : Hid ((if legOne l (cs.take j).reverse x = 0 then legFrom l (x :: (cs.take j).reverse) (cs.drop (j + 1)) (j + 1) else (legOne l (cs.take j).reverse x, (j : Int))) = legFrom l [] cs 0) := hf
      have H0 : Hid (FB w wr w.heap.size) := hg.fb
      have HG : Hid (LG w (wr.alloc (.cells #[.int .i64 x.k, .int .i64 x.a] 33)) M l (cs.take j).reverse ∧ Past l (cs.take j).reverse) := ⟨hg.grow (below_new _ _), hp⟩
      obtain ⟨rs1, rf1, rl1⟩ := cells_of (l := [_, _]) hg.fb.res
      have r10 := rs1 0 _ rfl
      have r11 := rs1 1 _ rfl
      have f10 := rf1 0
      have f11 := rf1 1
      clear rs1 rf1 hg hp hf hrow2 hd
      have hrv := rev_at hx
      generalize (cs.take j).reverse = past at *
      rcases hw1 : within x.k 0 ((l.length : Int) - 1) with _ | _
      · have e := HF.out
        rw [legOne_4 hw1, if_neg (by decide)] at e
        have HE : Hid ((4, (j : Int)) = legFrom l [] cs 0) := e
        clear e
        go_wp2_with (go_at_call 26; refine (within_any _ _ _ _).mono ?_; rintro r w2 ⟨rfl, rfl⟩; rw [hw1])
        refine bodyPost_ret (Legal_ends (set_alloc2 H0.out.res) rfl) rfl ?_
        exact ⟨by rw [← HE.out], (H0.out.set _ _).alloc (by have := (H0.out.set (.int .i64 4) (.int .i64 (j : Int))).size; omega) _⟩
      · simp only [within, Bool.and_eq_true, decide_eq_true_eq] at hw1
        obtain ⟨xk, xa⟩ := x
        dsimp only at *
        obtain ⟨k, rfl⟩ : ∃ k : Nat, xk = (k : Int) := ⟨xk.toNat, by omega⟩
        have hkl : k < l.length := by omega
        have hw1' : within (k : Int) 0 ((l.length : Int) - 1) = true := by simp [within]; omega
        rcases hw2 : within xa 0 20000 with _ | _
        · have e := HF.out
          rw [legOne_3 (c := ⟨k, xa⟩) hw1' hw2, if_neg (by decide)] at e
          have HE : Hid ((3, (j : Int)) = legFrom l [] cs 0) := e
          clear e
          go_wp2_with (go_at_call 26; refine (within_any _ _ _ _).mono ?_; rintro r w2 ⟨rfl, rfl⟩; first | rw [hw1'] | rw [hw2])
          refine bodyPost_ret (Legal_ends (set_alloc2 H0.out.res) rfl) rfl ?_
          exact ⟨by rw [← HE.out], (H0.out.set _ _).alloc (by have := (H0.out.set (.int .i64 3) (.int .i64 (j : Int))).size; omega) _⟩
        · obtain ⟨nr0, nr1⟩ := nowOf_range HG.out.2
          obtain ⟨sr0, sr1⟩ := soonOf_range HG.out.2 HR.out.2.2 (k : Int) (by omega) (by omega)
          obtain ⟨ms1, mf1, ml1⟩ := cells_of (l := soonVs l past) HG.out.1.row
          have m1 := ms1 k _ (soonVs_at hkl)
          have mf := mf1 k
          clear ms1 mf1
          have HW : Hid (within xa 0 20000 = true) := hw2
          by_cases q1 : xa < nowOf past
          · have e := HF.out
            rw [legOne_12 (c := ⟨k, xa⟩) hw1' hw2 (Or.inl q1), if_neg (by decide)] at e
            have HE : Hid ((12, (j : Int)) = legFrom l [] cs 0) := e
            clear e
            have q1' : decide (xa < nowOf past) = true := by simpa using q1
            go_wp2_with (go_at_call 26; refine (within_any _ _ _ _).mono ?_; rintro r w2 ⟨rfl, rfl⟩; first | rw [hw1'] | rw [hw2])
            go_quiet (fail)
            go_wp2_with fail
            have H3 := (H0.out.grow (below_new wr (.cells #[.int .i64 (k : Int), .int .i64 xa] 33))).grow (below_drewN' (n := nq))
            refine bodyPost_ret (Legal_ends (set_two H3.res) rfl) rfl ?_
            exact ⟨by rw [← HE.out], H3.set _ _⟩
          · have q1' : decide (xa < nowOf past) = false := by simpa using q1
            by_cases q2 : xa < soonOf l past (k : Int)
            · have e := HF.out
              rw [legOne_12 (c := ⟨k, xa⟩) hw1' hw2 (Or.inr q2), if_neg (by decide)] at e
              have HE : Hid ((12, (j : Int)) = legFrom l [] cs 0) := e
              clear e
              have q2' : decide (xa < soonOf l past (k : Int)) = true := by simpa using q2
              go_wp2_with (go_at_call 26; refine (within_any _ _ _ _).mono ?_; rintro r w2 ⟨rfl, rfl⟩; first | rw [hw1'] | rw [hw2])
              go_quiet (fail)
              go_wp2_with fail
              have H3 := (H0.out.grow (below_new wr (.cells #[.int .i64 (k : Int), .int .i64 xa] 33))).grow (below_drewN' (n := nq))
              refine bodyPost_ret (Legal_ends (set_two H3.res) rfl) rfl ?_
              exact ⟨by rw [← HE.out], H3.set _ _⟩
            · have e := HF.out
              have e0 := legOne_0 (c := ⟨k, xa⟩) hw1' hw2 (not_or.2 ⟨q1, q2⟩)
              rw [e0, if_pos rfl] at e
              have HE : Hid (legFrom l (⟨k, xa⟩ :: past) (List.drop (j + 1) cs) (j + 1) = legFrom l [] cs 0 ∧ Past l (⟨k, xa⟩ :: past)) := ⟨e, HG.out.2.cons e0⟩
              clear e e0
              have q2' : decide (xa < soonOf l past (k : Int)) = false := by simpa using q2
              obtain ⟨y, hy, -⟩ := drop_at hkl
              have hyt := stands_t (HR.out.2.2 y (List.mem_of_getElem? hy))
              have hyg : l.getD k ta0 = y := by rw [List.getD_eq_getElem?_getD, hy]; rfl
              have hxa : 0 ≤ xa ∧ xa ≤ 20000 := by simpa [within] using hw2
              go_wp2_with (go_at_call 26; refine (within_any _ _ _ _).mono ?_; rintro r w2 ⟨rfl, rfl⟩; first | rw [hw1'] | rw [hw2])
              go_quiet (fail)
              have hB3 : Below wr.heap.size wr ((wr.alloc (.cells #[.int .i64 (k : Int), .int .i64 xa] 33)).drewN nq) := below_seq (below_new wr (.cells #[.int .i64 (k : Int), .int .i64 xa] 33)) (below_drewN' (n := nq))
              have H3 : Hid (LG w ((wr.alloc (.cells #[.int .i64 (k : Int), .int .i64 xa] 33)).drewN nq) M l past) := HG.out.1.grow (below_drewN' (n := nq))
              have t0 : ((wr.alloc (.cells #[.int .i64 (k : Int), .int .i64 xa] 33)).drewN nq).cell? ⟨wr.heap.size, 0, none⟩ = some (.int .i64 (k : Int)) := below_cell (below_drewN' (n := nq)) (by go_simp)
              have t1 : ((wr.alloc (.cells #[.int .i64 (k : Int), .int .i64 xa] 33)).drewN nq).cell? ⟨wr.heap.size, 1, none⟩ = some (.int .i64 xa) := below_cell (below_drewN' (n := nq)) (by go_simp)
              have y2 := (ta_at (fun q u hq => below_cell (below_seq H0.out.bel hB3) (HR.out.1 q u hq)) hy).2.2.1
              obtain ⟨ns1, nf1, nl1⟩ := cells_of (l := soonVs l past) H3.out.row
              have n1 := ns1 k _ (soonVs_at hkl)
              have nf := nf1 k
              clear ns1 nf1 hB3 m1 mf ml1
              generalize (wr.alloc (.cells #[.int .i64 (k : Int), .int .i64 xa] 33)).drewN nq = W3 at *
              generalize wr.heap.size = T at *
              go_wp2_with fail
              go_region
              all_goals go_wp2_with fail
              all_goals
                have h5 := H3.out.set (c := ⟨k, xa⟩) rfl
                rw [hyg] at h5
                refine ⟨⟨j + 1, by omega, by simp, by rw [hrv]; rfl, ?_, by rw [hrv]; exact HE.out.2, by rw [hrv]; exact HE.out.1⟩, by simp [intOf]; omega⟩
                rw [hrv]
                exact h5.grow (Below.refl _ _).drew
    · have hje : j = cs.length := by omega
      subst hje
      rw [List.drop_length, legFrom] at hf
      have H1' : Hid (FB w wr w.heap.size) := hg.fb
      obtain ⟨rs1, rf1, rl1⟩ := cells_of (l := [_, _]) hg.fb.res
      have r10 := rs1 0 _ rfl
      have r11 := rs1 1 _ rfl
      have f10 := rf1 0
      have f11 := rf1 1
      have HF : Hid ((0, 0) = legFrom l [] cs 0) := hf
      clear rs1 rf1 hg hp hf
      go_wp2_with fail
      refine bodyPost_ret (Legal_ends (set_two H1'.out.res) rfl) rfl ?_
      exact ⟨by rw [← HF.out], H1'.out.set _ _⟩

/-- tasks.Legal. -/
theorem Legal_any (w : World) (l : List Ta) (cs : List Co) (v v2 : Value) (hv : RowSl Ta.vals w l v) (hv2 : RowSl Co.vals w cs v2) : Calls Try.prog 25 #[v, v2] w fun r w' => r = .returned (.agg #[.int .i64 (legF l cs).1, .int .i64 (legF l cs).2]) ∧ Below w.heap.size w w' := by
  unfold legF
  by_cases h0 : (chkF l).1 = 0
  · rw [if_neg (by simpa using h0)]
    by_cases hn : 4000 < cs.length
    · rw [if_pos hn]
      obtain ⟨ad2, c2, rfl⟩ := hv2.len
      exact Legal_many w l v ad2 cs.length c2 hv h0 hn
    · rw [if_neg hn]
      exact Legal_walk w l cs v v2 hv hv2 h0 (by omega)
  · rw [if_pos h0]
    exact Legal_bad w l v v2 hv h0
end Go.Proofs.Ytccoobcggbbciai
