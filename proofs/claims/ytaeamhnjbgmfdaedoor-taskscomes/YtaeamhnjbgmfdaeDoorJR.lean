import Derived.Test.YtaeamhnjbgmfdaeDoorJG
import Derived.Test.YtaeamhnjbgmfdaeDoorTM
import Derived.Deep.CutRange
namespace Go.Proofs.YtaeamhnjbgmfdaeDoor
open Go.ChangeShapes Go.WideShapes Go.ChangeAt Go.RowKit

theorem Lawful_ends {w : World} {g : Nat} {c k : Value} {a : Act} (h : w.heap[g]? = some (.cells #[c, k] 26 (0, 0))) (h3 : a.tmps[4]?.getD undef = .pointer (some ⟨g, 0, none⟩)) :
    (results Tryd.f14 a.tmps).run Tryd.prog w = .ok (.agg #[c, k]) w := by
  obtain ⟨c1, f1, l1⟩ := cells_of (l := [_, _]) h
  have c10 := c1 0 _ rfl
  have c11 := c1 1 _ rfl
  simp [results, Tryd.results14, go_sem, h3, c10, c11]

theorem lastOf_cons {x : Co} {p : List Co} {k : Int} : lastOf (x :: p) k = if x.k = k then some x else lastOf p k := by
  unfold lastOf
  rw [List.find?_cons]
  by_cases h : x.k = k
  · simp [h]
  · simp [h]

set_option maxRecDepth 20000 in
set_option maxHeartbeats 4000000 in
theorem Lawful_bad (w : World) (l : List Ta) (v v2 : Value) (hS : ∀ x ∈ l, x.nm.size ≤ 9223372036854775807) (hv : RowSl Ta.vals w l v) (h0 : (chkF l).1 ≠ 0) : Calls Tryd.prog 14 #[v, v2] w fun r w' => r = .returned (.agg #[.int .i64 (chkF l).1, .int .i64 (chkF l).2]) ∧ Below w.heap.size w w' := by
  have HC := CheckSet_any (w.alloc (.cells #[.int .i64 0, .int .i64 0] 26)) l v hS (hv.below (below_new _ _))
  obtain ⟨ad, c, rfl⟩ := hv.len
  generalize (chkF l).1 = z at *
  generalize (chkF l).2 = z2 at *
  have hzb : (z != 0) = true := by simpa using h0
  clear hv
  go_enter Tryd.func14, Tryd.ntmps14
  go_wp2_with (go_at_call 25; refine HC.mono ?_; rintro r w1 ⟨rfl, hb1⟩; have H1 : Hid (FB w w1 w.heap.size) := (FB.start w).grow hb1; obtain ⟨rs1, rf1, rl1⟩ := cells_of (l := [_, _]) H1.out.res; have r10 := rs1 0 _ rfl; have r11 := rs1 1 _ rfl; have f10 := rf1 0; have f11 := rf1 1; clear rs1 rf1 hb1 HC)
  refine bodyPost_ret (Lawful_ends (set_alloc2 H1.out.res) rfl) rfl ?_
  exact ⟨rfl, (H1.out.set _ _).alloc (by have := (H1.out.set (.int .i64 z) (.int .i64 z2)).size; omega) _⟩

set_option maxRecDepth 20000 in
set_option maxHeartbeats 4000000 in
theorem Lawful_many (w : World) (l : List Ta) (v : Value) (ad2 : Option Addr) (n c2 : Nat) (hS : ∀ x ∈ l, x.nm.size ≤ 9223372036854775807) (hv : RowSl Ta.vals w l v) (h0 : (chkF l).1 = 0) (hn : 4000 < n) : Calls Tryd.prog 14 #[v, .slice ad2 n c2] w fun r w' => r = .returned (.agg #[.int .i64 2, .int .i64 0]) ∧ Below w.heap.size w w' := by
  have HC := CheckSet_any (w.alloc (.cells #[.int .i64 0, .int .i64 0] 26)) l v hS (hv.below (below_new _ _))
  obtain ⟨ad, c, rfl⟩ := hv.len
  rw [h0] at HC
  generalize (chkF l).2 = z2 at *
  have hn' : (4000 : Int) < (n : Int) := by omega
  clear hv
  go_enter Tryd.func14, Tryd.ntmps14
  go_wp2_with (go_at_call 25; refine HC.mono ?_; rintro r w1 ⟨rfl, hb1⟩; have H1 : Hid (FB w (w1.alloc (.cells #[.int .i64 0, .int .i64 z2] 26)) w.heap.size) := ((FB.start w).grow hb1).grow (below_new _ _); clear hb1 HC)
  go_wp2_with (go_at_call 26; refine (F_any _ _ _).mono ?_; rintro r w2 ⟨rfl, hb2⟩; have H2 : Hid (FB w w2 w.heap.size) := H1.out.grow hb2; obtain ⟨rs1, rf1, rl1⟩ := cells_of (l := [_, _]) H2.out.res; have r10 := rs1 0 _ rfl; have r11 := rs1 1 _ rfl; have f10 := rf1 0; have f11 := rf1 1; clear rs1 rf1 hb2)
  refine bodyPost_ret (Lawful_ends (set_two H2.out.res) rfl) rfl ?_
  exact ⟨rfl, H2.out.set _ _⟩

set_option maxRecDepth 20000 in
set_option maxHeartbeats 4000000 in
theorem Lawful_walk (w : World) (l : List Ta) (cs : List Co) (v v2 : Value) (hS : ∀ x ∈ l, x.nm.size ≤ 9223372036854775807) (hv : RowSl Ta.vals w l v) (hv2 : RowSl Co.vals w cs v2) (h0 : (chkF l).1 = 0) (hn : cs.length ≤ 4000) : Calls Tryd.prog 14 #[v, v2] w fun r w' => r = .returned (.agg #[.int .i64 (legFrom l [] cs 0).1, .int .i64 (legFrom l [] cs 0).2]) ∧ Below w.heap.size w w' := by
  have HC := CheckSet_any (w.alloc (.cells #[.int .i64 0, .int .i64 0] 26)) l v hS (hv.below (below_new _ _))
  obtain ⟨h1, h8, hst⟩ := chkF_ok h0
  rw [h0] at HC
  generalize (chkF l).2 = z2 at *
  obtain ⟨ad, c, rfl, -, hcap, hrow⟩ := hv
  rcases hrow with h | ⟨b, o, rfl, hrow⟩
  · rw [h] at h1; simp at h1
  obtain ⟨ad2, c2, rfl, -, hcap2, hrow2⟩ := hv2
  have HR : Hid ((∀ q u, (l.flatMap Ta.vals)[q]? = some u → w.cell? ⟨b, o + q, none⟩ = some u) ∧ (cs = [] ∨ ∃ b o, ad2 = some ⟨b, o, none⟩ ∧ ∀ q u, (cs.flatMap Co.vals)[q]? = some u → w.cell? ⟨b, o + q, none⟩ = some u) ∧ ∀ x ∈ l, stands x = true) := ⟨hrow, hrow2, hst⟩
  clear hrow hrow2 hst h0 hS
  have hn' : ¬ (4000 : Int) < (cs.length : Int) := by omega
  go_enter Tryd.func14, Tryd.ntmps14
  go_wp2_with (go_at_call 25; refine HC.mono ?_; rintro r w1 ⟨rfl, hb1⟩; have H1 : Hid (FB w (w1.alloc (.cells #[.int .i64 0, .int .i64 z2] 26)) w.heap.size) := ((FB.start w).grow hb1).grow (below_new _ _); clear hb1 HC)
  go_loopw [21] (fun i wr => ∃ j : Nat, j ≤ cs.length ∧ i = .int .i64 j ∧ FB w wr w.heap.size ∧ Past l (cs.take j).reverse ∧ legFrom l (cs.take j).reverse (cs.drop j) j = legFrom l [] cs 0) (fun i _ => cs.length - (intOf i).toNat)
  case atStart => exact ⟨0, Nat.zero_le _, rfl, H1.out, (fun c hc => by simp at hc), rfl⟩
  case round =>
    obtain ⟨j, hj, rfl, hg, hp, hf⟩ := hrel
    by_cases hlt : j < cs.length
    · obtain ⟨x, hx, hd⟩ := drop_at hlt
      rw [hd, legFrom] at hf
      rcases HR.out.2.1 with h | ⟨b2, o2, rfl, hrow2⟩
      · rw [h] at hlt; simp at hlt
      obtain ⟨c0, c1⟩ := co_at (fun q u hq => below_cell hg.bel (hrow2 q u hq)) hx
      have lb2 : b2 < wr.heap.size := World.block_lt_of_cell? _ _ c0
      have HF : Hid ((if legOne l (cs.take j).reverse x = 0 then legFrom l (x :: (cs.take j).reverse) (cs.drop (j + 1)) (j + 1) else (legOne l (cs.take j).reverse x, (j : Int))) = legFrom l [] cs 0) := hf
      have HG : Hid (FB w (wr.alloc (.cells #[.int .i64 x.k, .int .i64 x.a] 32)) w.heap.size ∧ Past l (cs.take j).reverse ∧ (∀ q u, (cs.flatMap Co.vals)[q]? = some u → w.cell? ⟨b2, o2 + q, none⟩ = some u)) := ⟨hg.grow (below_new _ _), hp, hrow2⟩
      clear hg hp hf hrow2 hd
      have hrv := rev_at hx
      by_cases hw1 : x.k < 0 ∨ (l.length : Int) ≤ x.k
      · have e := HF.out
        rw [show legOne l (cs.take j).reverse x = 4 by unfold legOne; rw [if_pos hw1], if_neg (by decide)] at e
        have HE : Hid ((4, (j : Int)) = legFrom l [] cs 0) := e
        clear e
        by_cases q1 : x.k < 0
        · go_wp2_with (go_at_call 26; refine (F_any _ _ _).mono ?_; rintro r w2 ⟨rfl, hb2⟩; have H2 : Hid (FB w w2 w.heap.size) := HG.out.1.grow hb2; obtain ⟨rs1, rf1, rl1⟩ := cells_of (l := [_, _]) H2.out.res; have r10 := rs1 0 _ rfl; have r11 := rs1 1 _ rfl; have f10 := rf1 0; have f11 := rf1 1; clear rs1 rf1 hb2)
          refine bodyPost_ret (Lawful_ends (set_two H2.out.res) rfl) rfl ?_
          exact ⟨by rw [← HE.out], H2.out.set _ _⟩
        · have q2 : (l.length : Int) ≤ x.k := by omega
          go_wp2_with (go_at_call 26; refine (F_any _ _ _).mono ?_; rintro r w2 ⟨rfl, hb2⟩; have H2 : Hid (FB w w2 w.heap.size) := HG.out.1.grow hb2; obtain ⟨rs1, rf1, rl1⟩ := cells_of (l := [_, _]) H2.out.res; have r10 := rs1 0 _ rfl; have r11 := rs1 1 _ rfl; have f10 := rf1 0; have f11 := rf1 1; clear rs1 rf1 hb2)
          refine bodyPost_ret (Lawful_ends (set_two H2.out.res) rfl) rfl ?_
          exact ⟨by rw [← HE.out], H2.out.set _ _⟩
      by_cases hw2 : x.a < 0 ∨ 20000 < x.a
      · have e := HF.out
        rw [show legOne l (cs.take j).reverse x = 3 by unfold legOne; rw [if_neg hw1, if_pos hw2], if_neg (by decide)] at e
        have HE : Hid ((3, (j : Int)) = legFrom l [] cs 0) := e
        clear e
        have p1 : ¬ x.k < 0 := by omega
        have p2 : ¬ (l.length : Int) ≤ x.k := by omega
        by_cases q1 : x.a < 0
        · go_wp2_with (go_at_call 26; refine (F_any _ _ _).mono ?_; rintro r w2 ⟨rfl, hb2⟩; have H2 : Hid (FB w w2 w.heap.size) := HG.out.1.grow hb2; obtain ⟨rs1, rf1, rl1⟩ := cells_of (l := [_, _]) H2.out.res; have r10 := rs1 0 _ rfl; have r11 := rs1 1 _ rfl; have f10 := rf1 0; have f11 := rf1 1; clear rs1 rf1 hb2)
          refine bodyPost_ret (Lawful_ends (set_two H2.out.res) rfl) rfl ?_
          exact ⟨by rw [← HE.out], H2.out.set _ _⟩
        · have q2 : 20000 < x.a := by omega
          go_wp2_with (go_at_call 26; refine (F_any _ _ _).mono ?_; rintro r w2 ⟨rfl, hb2⟩; have H2 : Hid (FB w w2 w.heap.size) := HG.out.1.grow hb2; obtain ⟨rs1, rf1, rl1⟩ := cells_of (l := [_, _]) H2.out.res; have r10 := rs1 0 _ rfl; have r11 := rs1 1 _ rfl; have f10 := rf1 0; have f11 := rf1 1; clear rs1 rf1 hb2)
          refine bodyPost_ret (Lawful_ends (set_two H2.out.res) rfl) rfl ?_
          exact ⟨by rw [← HE.out], H2.out.set _ _⟩
      obtain ⟨xk, xa⟩ := x
      dsimp only at *
      obtain ⟨k, rfl⟩ : ∃ k : Nat, xk = (k : Int) := ⟨xk.toNat, by omega⟩
      have hkl : k < l.length := by omega
      have p1 : ¬ (k : Int) < 0 := by omega
      have p2 : ¬ (l.length : Int) ≤ (k : Int) := by omega
      have p3 : ¬ xa < 0 := by omega
      have p4 : ¬ 20000 < xa := by omega
      clear hw1 hw2
      have nr := nowOf_range HG.out.2.1
      go_upto_region 13 with fail
      go_cut [60] from 48 to 60 (fun v wc => v = .bool (decide (xa < nowOf (cs.take j).reverse)) ∧ ∃ n, wc = (wr.alloc (.cells #[.int .i64 (k : Int), .int .i64 xa] 32)).drewN n)
      case first =>
        cases j with
        | zero =>
          have g1 : decide ((0 : Int) < ((0 : Nat) : Int)) = false := by simp
          have hz0 : decide (xa < nowOf (List.take 0 cs).reverse) = false := by
            have : nowOf (List.take 0 cs).reverse = 0 := rfl
            rw [this]
            simpa using p3
          have HZ : Hid (decide (xa < nowOf (List.take 0 cs).reverse) = false) := hz0
          clear hz0
          go_quiet (fail)
          go_wp2_with fail
          go_meet
          case rel =>
            refine ⟨?_, nq, rfl⟩
            rw [HZ.out]
        | succ m =>
          obtain ⟨z, hz, -⟩ := drop_at (l := cs) (k := m) (by omega)
          obtain ⟨z0, z1⟩ := co_at (fun q u hq => below_cell HG.out.1.bel (HG.out.2.2 q u hq)) hz
          have hrz := rev_at hz
          have g1 : decide ((0 : Int) < ((m + 1 : Nat) : Int)) = true := by simp
          go_quiet (fail)
          go_wp2_with fail
          go_meet
          case rel =>
            refine ⟨?_, nq, rfl⟩
            rw [hrz]
            rfl
      case rest =>
      obtain ⟨rfl, n0, rfl⟩ := hcut
      have t0 : ((wr.alloc (.cells #[.int .i64 (k : Int), .int .i64 xa] 32)).drewN n0).cell? ⟨wr.heap.size, 0, none⟩ = some (.int .i64 (k : Int)) := below_cell (below_drewN' (n := n0)) (by go_simp)
      have t1 : ((wr.alloc (.cells #[.int .i64 (k : Int), .int .i64 xa] 32)).drewN n0).cell? ⟨wr.heap.size, 1, none⟩ = some (.int .i64 xa) := below_cell (below_drewN' (n := n0)) (by go_simp)
      have HW : Hid (FB w ((wr.alloc (.cells #[.int .i64 (k : Int), .int .i64 xa] 32)).drewN n0) w.heap.size ∧ ((wr.alloc (.cells #[.int .i64 (k : Int), .int .i64 xa] 32)).drewN n0).cell? ⟨wr.heap.size, 0, none⟩ = some (.int .i64 (k : Int)) ∧ ((wr.alloc (.cells #[.int .i64 (k : Int), .int .i64 xa] 32)).drewN n0).cell? ⟨wr.heap.size, 1, none⟩ = some (.int .i64 xa)) := ⟨HG.out.1.grow (below_drewN' (n := n0)), t0, t1⟩
      have HP : Hid (Past l (cs.take j).reverse ∧ (∀ q u, (cs.flatMap Co.vals)[q]? = some u → w.cell? ⟨b2, o2 + q, none⟩ = some u)) := HG.out.2
      clear c0 c1 lb2 HG
      generalize (wr.alloc (.cells #[.int .i64 (k : Int), .int .i64 xa] 32)).drewN n0 = W4 at *
      generalize wr.heap.size = T at *
      by_cases hnow : xa < nowOf (cs.take j).reverse
      · have e := HF.out
        rw [show legOne l (cs.take j).reverse ⟨k, xa⟩ = 12 by unfold legOne; rw [if_neg (by dsimp only; omega), if_neg (by dsimp only; omega), if_pos (Or.inl hnow)], if_neg (by decide)] at e
        have HE : Hid ((12, (j : Int)) = legFrom l [] cs 0) := e
        clear e
        go_wp2_with (go_at_call 26; refine (F_any _ _ _).mono ?_; rintro r w2 ⟨rfl, hb2⟩; have H2 : Hid (FB w w2 w.heap.size) := HW.out.1.grow hb2; obtain ⟨rs1, rf1, rl1⟩ := cells_of (l := [_, _]) H2.out.res; have r10 := rs1 0 _ rfl; have r11 := rs1 1 _ rfl; have f10 := rf1 0; have f11 := rf1 1; clear rs1 rf1 hb2)
        refine bodyPost_ret (Lawful_ends (set_two H2.out.res) rfl) rfl ?_
        exact ⟨by rw [← HE.out], H2.out.set _ _⟩
      obtain ⟨y, hy, -⟩ := drop_at hkl
      have hyt := stands_t (HR.out.2.2 y (List.mem_of_getElem? hy))
      have hyg : l.getD k ta0 = y := by rw [List.getD_eq_getElem?_getD, hy]; rfl
      go_wp2_with fail
      go_loopw [8] (fun i wl => ∃ m : Nat, m ≤ j ∧ i = .int .i64 ((m : Int) - 1) ∧ lastOf (cs.take j).reverse (k : Int) = lastOf (cs.take m).reverse (k : Int) ∧ Below W4.heap.size W4 wl) (fun i _ => (intOf i + 1).toNat)
      case atStart => exact ⟨j, Nat.le_refl _, rfl, rfl, Below.refl _ _⟩
      case round =>
        obtain ⟨m, hm, rfl, hl, hbl⟩ := hrel
        have HL : Hid (Below W4.heap.size W4 wr) := hbl
        cases m with
        | zero =>
          have hno : legOne l (cs.take j).reverse ⟨k, xa⟩ = 0 := by
            unfold legOne
            rw [if_neg (by dsimp only; omega), if_neg (by dsimp only; omega), if_neg]
            refine not_or.2 ⟨by dsimp only; omega, ?_⟩
            have : soonOf l (cs.take j).reverse (k : Int) = 0 := by unfold soonOf; rw [hl]; rfl
            dsimp only
            omega
          have e := HF.out
          rw [hno, if_pos rfl] at e
          have HE : Hid (legFrom l (⟨k, xa⟩ :: (cs.take j).reverse) (List.drop (j + 1) cs) (j + 1) = legFrom l [] cs 0 ∧ Past l (⟨k, xa⟩ :: (cs.take j).reverse) ∧ FB w wr w.heap.size) := ⟨e, HP.out.1.cons hno, HW.out.1.grow hbl⟩
          clear e hl hbl hno
          go_wp2_with fail
          exact ⟨⟨j + 1, by omega, by simp, HE.out.2.2, by rw [hrv]; exact HE.out.2.1, by rw [hrv]; exact HE.out.1⟩, by simp [intOf]; omega⟩
        | succ m =>
          obtain ⟨z, hz, -⟩ := drop_at (l := cs) (k := m) (by omega)
          have hmz : z ∈ (cs.take j).reverse := by
            rw [List.mem_reverse]
            have : (cs.take j)[m]? = some z := by rw [List.getElem?_take_of_lt (by omega)]; exact hz
            exact List.mem_of_getElem? this
          have hza := HP.out.1 z hmz
          obtain ⟨z0, z1⟩ := co_at (fun q u hq => below_cell (below_seq HW.out.1.bel hbl) (HP.out.2 q u hq)) hz
          have t0 := below_cell hbl HW.out.2.1
          have t1 := below_cell hbl HW.out.2.2
          have y2 := (ta_at (fun q u hq => below_cell (below_seq HW.out.1.bel hbl) (HR.out.1 q u hq)) hy).2.2.1
          rw [rev_at hz, lastOf_cons] at hl
          by_cases hzk : z.k = (k : Int)
          · rw [if_pos hzk] at hl
            have hsoon : soonOf l (cs.take j).reverse (k : Int) = z.a + y.t := by
              unfold soonOf
              rw [hl]
              simp only [Int.toNat_natCast, hyg]
            have ez : (z.k == (k : Int)) = true := by simpa using hzk
            have HS : Hid (soonOf l (cs.take j).reverse (k : Int) = z.a + y.t ∧ FB w wr w.heap.size) := ⟨hsoon, HW.out.1.grow hbl⟩
            clear hl hbl hsoon hzk
            go_wp2_with fail
            go_quiet (fail)
            have H6 : Hid (FB w (wr.drewN nq) w.heap.size) := HS.out.2.grow (below_drewN' (n := nq))
            replace z0 := below_cell (below_drewN' (n := nq)) z0
            replace z1 := below_cell (below_drewN' (n := nq)) z1
            replace t0 := below_cell (below_drewN' (n := nq)) t0
            replace t1 := below_cell (below_drewN' (n := nq)) t1
            replace y2 := below_cell (below_drewN' (n := nq)) y2
            generalize wr.drewN nq = W5 at *
            by_cases hT : xa - z.a < y.t
            · have e := HF.out
              rw [show legOne l (cs.take j).reverse ⟨k, xa⟩ = 12 by unfold legOne; rw [if_neg (by dsimp only; omega), if_neg (by dsimp only; omega), if_pos (Or.inr (by have := HS.out.1; dsimp only; omega))], if_neg (by decide)] at e
              have HE : Hid ((12, (j : Int)) = legFrom l [] cs 0) := e
              clear e
              have hT' : decide (xa - z.a < y.t) = true := by simpa using hT
              go_wp2_with fail
              go_quiet (fail)
              have H7 : Hid (FB w (W5.drewN nq) w.heap.size) := H6.out.grow (below_drewN' (n := nq))
              go_wp2_with (go_at_call 26; refine (F_any _ _ _).mono ?_; rintro r w2 ⟨rfl, hb2⟩; have H2 : Hid (FB w w2 w.heap.size) := H7.out.grow hb2; obtain ⟨rs1, rf1, rl1⟩ := cells_of (l := [_, _]) H2.out.res; have r10 := rs1 0 _ rfl; have r11 := rs1 1 _ rfl; have f10 := rf1 0; have f11 := rf1 1; clear rs1 rf1 hb2)
              refine bodyPost_ret (Lawful_ends (set_two H2.out.res) rfl) rfl ?_
              exact ⟨by rw [← HE.out], H2.out.set _ _⟩
            · have hno : legOne l (cs.take j).reverse ⟨k, xa⟩ = 0 := by
                unfold legOne
                rw [if_neg (by dsimp only; omega), if_neg (by dsimp only; omega), if_neg]
                refine not_or.2 ⟨by dsimp only; omega, ?_⟩
                have := HS.out.1
                dsimp only
                omega
              have e := HF.out
              rw [hno, if_pos rfl] at e
              have HE : Hid (legFrom l (⟨k, xa⟩ :: (cs.take j).reverse) (List.drop (j + 1) cs) (j + 1) = legFrom l [] cs 0 ∧ Past l (⟨k, xa⟩ :: (cs.take j).reverse)) := ⟨e, HP.out.1.cons hno⟩
              clear e hno
              have hT' : decide (xa - z.a < y.t) = false := by simpa using hT
              go_wp2_with fail
              go_quiet (fail)
              have H7 : Hid (FB w (W5.drewN nq) w.heap.size) := H6.out.grow (below_drewN' (n := nq))
              go_wp2_with fail
              exact ⟨⟨j + 1, by omega, by simp, H7.out, by rw [hrv]; exact HE.out.2, by rw [hrv]; exact HE.out.1⟩, by simp [intOf]; omega⟩
          · rw [if_neg hzk] at hl
            have ez : (z.k == (k : Int)) = false := by simpa using hzk
            have HE : Hid (lastOf (cs.take j).reverse (k : Int) = lastOf (cs.take m).reverse (k : Int)) := hl
            clear hl hbl
            go_wp2_with fail
            go_quiet (fail)
            go_wp2_with fail
            go_roundw
            case rel => exact ⟨m, by omega, by simp, HE.out, below_seq HL.out (below_drewN' (n := nq))⟩
            case measure => simp [intOf]
    · have hje : j = cs.length := by omega
      subst hje
      rw [List.drop_length, legFrom] at hf
      have H1' : Hid (FB w wr w.heap.size) := hg
      obtain ⟨rs1, rf1, rl1⟩ := cells_of (l := [_, _]) hg.res
      have r10 := rs1 0 _ rfl
      have r11 := rs1 1 _ rfl
      have f10 := rf1 0
      have f11 := rf1 1
      have HF : Hid ((0, 0) = legFrom l [] cs 0) := hf
      clear rs1 rf1 hg hp hf
      go_wp2_with fail
      refine bodyPost_ret (Lawful_ends (set_two H1'.out.res) rfl) rfl ?_
      exact ⟨by rw [← HF.out], H1'.out.set _ _⟩

/-- punctualref.Lawful. -/
theorem Lawful_any (w : World) (l : List Ta) (cs : List Co) (v v2 : Value) (hS : ∀ x ∈ l, x.nm.size ≤ 9223372036854775807) (hv : RowSl Ta.vals w l v) (hv2 : RowSl Co.vals w cs v2) : Calls Tryd.prog 14 #[v, v2] w fun r w' => r = .returned (.agg #[.int .i64 (legF l cs).1, .int .i64 (legF l cs).2]) ∧ Below w.heap.size w w' := by
  unfold legF
  by_cases h0 : (chkF l).1 = 0
  · rw [if_neg (by simpa using h0)]
    by_cases hn : 4000 < cs.length
    · rw [if_pos hn]
      obtain ⟨ad2, c2, rfl⟩ := hv2.len
      exact Lawful_many w l v ad2 cs.length c2 hS hv h0 hn
    · rw [if_neg hn]
      exact Lawful_walk w l cs v v2 hS hv hv2 h0 (by omega)
  · rw [if_pos h0]
    exact Lawful_bad w l v v2 hS hv h0
end Go.Proofs.YtaeamhnjbgmfdaeDoor
