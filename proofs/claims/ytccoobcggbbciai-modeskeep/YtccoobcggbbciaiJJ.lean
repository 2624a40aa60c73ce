import Derived.Test.YtccoobcggbbciaiJG
import Derived.Test.YtccoobcggbbciaiJP
import Derived.BigQuiet
import Derived.Deep.CutRange
namespace Go.Proofs.Ytccoobcggbbciai
open Go.ChangeShapes Go.WideShapes Go.ChangeAt Go.RowKit

theorem ownsRow_keep2 {w w' : World} {B n size : Nat} {e : TypeId} {v : Value} {xs : List Value} (h : w.ownsRow B e size v n xs) (hs : ∀ k, v.ownBlock = some k → w'.heap[k]? = w.heap[k]?) : w'.ownsRow B e size v n xs := by
  obtain ⟨hl, h | ⟨g, cap, cur, he, hb, hg, hr⟩⟩ := h
  · exact ⟨hl, .inl h⟩
  · exact ⟨hl, .inr ⟨g, cap, cur, he, hb, (hs g (by rw [he]; rfl)).trans hg, hr⟩⟩

theorem region_append {P : Program} {ops : Array Oper} {o : Oper} {a : Act} {w : World} {K : Act → World → Prop} {Q : Exit → Act → World → Prop} {E : Prop} [Decidable (Region.wanted o (yielded ops a.tmps) = true)] (hgd : o.guard = none) (s x : Operand) (t : TypeId)
    (ho : o.op = .call { callee := .builtin .append, args := #[s, x], argTypes := #[t, t] }) {v u v' : Value} {w' : World} (hs : a.eval s = v) (hx : a.eval x = u)
    (hrun : (Builtin.append_ #[t, t] o.type #[v, u]).run P w = .ok v' w') (h : K (a.put o.dst v') w') : if Region.wanted o (yielded ops a.tmps) = true then Oper.wp P o a w K Q else E := by
  have hw : Region.wanted o (yielded ops a.tmps) = true := by simp [Region.wanted, hgd]
  rw [if_pos hw]
  unfold Oper.wp
  simp [execOp, ho, resolve, invoke, builtin, hs, hx, hrun, Result.andThen]
  exact h

theorem Jobs_ends {w : World} {g : Nat} {c k p : Value} {a : Act} (h : w.heap[g]? = some (.cells #[c, k] 29 (0, 0))) (h2 : a.tmps[8]?.getD undef = p) (h3 : a.tmps[9]?.getD undef = .pointer (some ⟨g, 0, none⟩)) :
    (results Try.f11 a.tmps).run Try.prog w = .ok (.tuple #[p, .agg #[c, k]]) w := by
  obtain ⟨c1, f1, l1⟩ := cells_of (l := [_, _]) h
  have c10 := c1 0 _ rfl
  have c11 := c1 1 _ rfl
  subst h2
  simp [results, Try.results11, go_sem, h3, c10, c11]

theorem Jobs_quiet (w : World) {n a b : Int} {v : Bool} (h : within n a b = v) : Calls Try.prog 26 #[.int .i64 n, .int .i64 a, .int .i64 b] w fun r w' => r = .returned (.bool v) ∧ ∃ n, w' = w.drewN n := by
  refine (within_any w n a b).mono ?_
  rintro r w' ⟨rfl, rfl⟩
  exact ⟨by rw [h], 0, rfl⟩

theorem Jobs_nil (w : World) (B : Nat) : w.ownsRow B 72 5 (.slice none 0 0) ([] : List Jb).length (([] : List Jb).flatMap Jb.vals) := ⟨rfl, .inl ⟨rfl, rfl⟩⟩

set_option maxRecDepth 20000 in
set_option maxHeartbeats 4000000 in
theorem Jobs_bad (w : World) (l : List Ta) (cs : List Co) (v v2 v3 v4 : Value) (hv : RowSl Ta.vals w l v) (hv2 : RowSl Co.vals w cs v2) (h0 : (legF l cs).1 ≠ 0) : Calls Try.prog 11 #[v, v2, v3, v4] w fun r w' => r = .returned (.tuple #[.slice none 0 0, .agg #[.int .i64 (legF l cs).1, .int .i64 (legF l cs).2]]) ∧ Below w.heap.size w w' := by
  have HC := Legal_any (w.alloc (.cells #[.int .i64 0, .int .i64 0] 29)) l cs v v2 (hv.below (below_new _ _)) (hv2.below (below_new _ _))
  obtain ⟨ad, c, rfl⟩ := hv.len
  obtain ⟨ad2, c2, rfl⟩ := hv2.len
  generalize (legF l cs).1 = z at *
  generalize (legF l cs).2 = z2 at *
  have hzb : (z != 0) = true := by simpa using h0
  clear hv hv2
  go_enter Try.func11, Try.ntmps11
  go_wp2_with (go_at_call 25; refine HC.mono ?_; rintro r w1 ⟨rfl, hb1⟩; have H1 : Hid (FB w w1 w.heap.size) := (FB.start w).grow hb1; obtain ⟨rs1, rf1, rl1⟩ := cells_of (l := [_, _]) H1.out.res; have r10 := rs1 0 _ rfl; have r11 := rs1 1 _ rfl; have f10 := rf1 0; have f11 := rf1 1; clear rs1 rf1 hb1 HC)
  go_region
  all_goals go_wp2_with fail
  all_goals
    refine bodyPost_ret (Jobs_ends (g := w.heap.size) (c := .int .i64 z) (k := .int .i64 z2) (set_alloc2 H1.out.res) rfl rfl) rfl ?_
    exact ⟨rfl, ((H1.out.set _ _).alloc (by have := (H1.out.set (.int .i64 z) (.int .i64 z2)).size; omega) _).drew⟩

set_option maxRecDepth 20000 in
set_option maxHeartbeats 4000000 in
theorem Jobs_many (w : World) (l : List Ta) (cs : List Co) (v v2 : Value) (ad3 ad4 : Option Addr) (n3 c3 n4 c4 : Nat) (hv : RowSl Ta.vals w l v) (hv2 : RowSl Co.vals w cs v2) (h0 : (legF l cs).1 = 0) (hn : n3 ≠ cs.length ∨ n4 ≠ cs.length) : Calls Try.prog 11 #[v, v2, .slice ad3 n3 c3, .slice ad4 n4 c4] w fun r w' => r = .returned (.tuple #[.slice none 0 0, .agg #[.int .i64 2, .int .i64 0]]) ∧ Below w.heap.size w w' := by
  have HC := Legal_any (w.alloc (.cells #[.int .i64 0, .int .i64 0] 29)) l cs v v2 (hv.below (below_new _ _)) (hv2.below (below_new _ _))
  obtain ⟨ad, c, rfl⟩ := hv.len
  obtain ⟨ad2, c2, rfl⟩ := hv2.len
  rw [h0] at HC
  generalize (legF l cs).2 = z2 at *
  clear hv hv2
  by_cases q3 : n3 = cs.length
  · have q4 : n4 ≠ cs.length := by omega
    have q3' : ((n3 : Int) != (cs.length : Int)) = false := by simp; omega
    have q4' : ((n4 : Int) != (cs.length : Int)) = true := by simp; omega
    clear hn q3 q4
    go_enter Try.func11, Try.ntmps11
    go_wp2_with (go_at_call 25; refine HC.mono ?_; rintro r w1 ⟨rfl, hb1⟩; have H1 : Hid (FB w w1 w.heap.size) := (FB.start w).grow hb1; obtain ⟨rs1, rf1, rl1⟩ := cells_of (l := [_, _]) H1.out.res; have r10 := rs1 0 _ rfl; have r11 := rs1 1 _ rfl; have f10 := rf1 0; have f11 := rf1 1; clear rs1 rf1 hb1 HC)
    all_goals
      refine bodyPost_ret (Jobs_ends (g := w.heap.size) (c := .int .i64 2) (k := .int .i64 0) (set_alloc2 H1.out.res) rfl rfl) rfl ?_
      exact ⟨rfl, (H1.out.set _ _).alloc (by have := (H1.out.set (.int .i64 2) (.int .i64 0)).size; omega) _⟩
  · have q3' : ((n3 : Int) != (cs.length : Int)) = true := by simp; omega
    clear hn q3
    go_enter Try.func11, Try.ntmps11
    go_wp2_with (go_at_call 25; refine HC.mono ?_; rintro r w1 ⟨rfl, hb1⟩; have H1 : Hid (FB w w1 w.heap.size) := (FB.start w).grow hb1; obtain ⟨rs1, rf1, rl1⟩ := cells_of (l := [_, _]) H1.out.res; have r10 := rs1 0 _ rfl; have r11 := rs1 1 _ rfl; have f10 := rf1 0; have f11 := rf1 1; clear rs1 rf1 hb1 HC)
    all_goals
      refine bodyPost_ret (Jobs_ends (g := w.heap.size) (c := .int .i64 2) (k := .int .i64 0) (set_alloc2 H1.out.res) rfl rfl) rfl ?_
      exact ⟨rfl, (H1.out.set _ _).alloc (by have := (H1.out.set (.int .i64 2) (.int .i64 0)).size; omega) _⟩

set_option maxRecDepth 20000 in
set_option maxHeartbeats 4000000 in
theorem Jobs_walk (w : World) (l : List Ta) (cs : List Co) (la tk : List Int) (v v2 v3 v4 : Value) (hv : RowSl Ta.vals w l v) (hv2 : RowSl Co.vals w cs v2) (hv3 : RowSl nuV w la v3) (hv4 : RowSl nuV w tk v4) (h0 : (legF l cs).1 = 0) (hla : la.length = cs.length) (htk : tk.length = cs.length) : Calls Try.prog 11 #[v, v2, v3, v4] w fun r w' => ∃ u, r = .returned (.tuple #[u, .agg #[.int .i64 (jobsFrom l [] cs la tk 0).1.1, .int .i64 (jobsFrom l [] cs la tk 0).1.2]]) ∧ w'.ownsRow (w.heap.size + 1) 72 5 u (jobsFrom l [] cs la tk 0).2.length ((jobsFrom l [] cs la tk 0).2.flatMap Jb.vals) ∧ Below w.heap.size w w' := by
  have HC := Legal_any (w.alloc (.cells #[.int .i64 0, .int .i64 0] 29)) l cs v v2 (hv.below (below_new _ _)) (hv2.below (below_new _ _))
  obtain ⟨hck, hcn, hco⟩ := legF_ok h0
  obtain ⟨h1, h8, hst⟩ := chkF_ok hck
  rw [h0] at HC
  generalize (legF l cs).2 = z2 at *
  obtain ⟨ad, c, rfl, -, hcap, hrow⟩ := hv
  rcases hrow with h | ⟨b, o, rfl, hrow⟩
  · rw [h] at h1; simp at h1
  obtain ⟨ad2, c2, rfl, -, hcap2, hrow2⟩ := hv2
  obtain ⟨ad3, c3, rfl, -, hcap3, hrow3⟩ := hv3
  obtain ⟨ad4, c4, rfl, -, hcap4, hrow4⟩ := hv4
  rw [hla, htk]
  have HR : Hid (((∀ q u, (l.flatMap Ta.vals)[q]? = some u → w.cell? ⟨b, o + q, none⟩ = some u) ∧ (cs = [] ∨ ∃ b o, ad2 = some ⟨b, o, none⟩ ∧ ∀ q u, (cs.flatMap Co.vals)[q]? = some u → w.cell? ⟨b, o + q, none⟩ = some u) ∧ (la = [] ∨ ∃ b o, ad3 = some ⟨b, o, none⟩ ∧ ∀ q u, (la.flatMap nuV)[q]? = some u → w.cell? ⟨b, o + q, none⟩ = some u) ∧ (tk = [] ∨ ∃ b o, ad4 = some ⟨b, o, none⟩ ∧ ∀ q u, (tk.flatMap nuV)[q]? = some u → w.cell? ⟨b, o + q, none⟩ = some u)) ∧ (∀ x ∈ l, stands x = true) ∧ ∀ c ∈ cs, 0 ≤ c.k ∧ c.k < (l.length : Int) ∧ 0 ≤ c.a ∧ c.a ≤ 20000) := ⟨⟨hrow, hrow2, hrow3, hrow4⟩, hst, hco⟩
  clear hrow hrow2 hrow3 hrow4 hst hco h0 hck
  go_enter Try.func11, Try.ntmps11
  go_wp2_with (go_at_call 25; refine HC.mono ?_; rintro r w1 ⟨rfl, hb1⟩; have H1 : Hid (FB w w1 w.heap.size) := (FB.start w).grow hb1; clear hb1 HC)
  have H2 : Hid (JO w (w1.alloc (.cells #[.int .i64 0, .int .i64 z2] 29)) [] (.slice none 0 0)) := ⟨H1.out.grow (below_new _ _), Jobs_nil _ _⟩
  go_loopw [11, 37] (fun jv i wr => ∃ (j : Nat) (acc : List Jb), j ≤ cs.length ∧ i = .int .i64 j ∧ JO w wr acc jv ∧ acc.length = j ∧ jobsFrom l acc (cs.drop j) (la.drop j) (tk.drop j) j = jobsFrom l [] cs la tk 0) (fun _ i _ => cs.length - (intOf i).toNat)
  case atStart => exact ⟨0, [], Nat.zero_le _, rfl, H2.out, rfl, rfl⟩
  case round =>
    obtain ⟨j, acc, hj, rfl, hg, hal, hf⟩ := hrel
    by_cases hlt : j < cs.length
    · obtain ⟨x, hx, hd⟩ := drop_at hlt
      obtain ⟨av, hav, had⟩ := drop_at (l := la) (k := j) (by omega)
      obtain ⟨bv, hbv, hbd⟩ := drop_at (l := tk) (k := j) (by omega)
      rw [jobsFrom_at hd had hbd] at hf
      rcases HR.out.1.2.1 with h | ⟨b2, o2, rfl, hrow2⟩
      · rw [h] at hlt; simp at hlt
      rcases HR.out.1.2.2.1 with h | ⟨b3, o3, rfl, hrow3⟩
      · rw [h] at hla; simp at hla; omega
      rcases HR.out.1.2.2.2 with h | ⟨b4, o4, rfl, hrow4⟩
      · rw [h] at htk; simp at htk; omega
      obtain ⟨hk0, hk1, ha0, ha1⟩ := HR.out.2.2 x (List.mem_of_getElem? hx)
      obtain ⟨xk, xa⟩ := x
      dsimp only at hk0 hk1 ha0 ha1
      obtain ⟨k, rfl⟩ : ∃ k : Nat, xk = (k : Int) := ⟨xk.toNat, by omega⟩
      have hkl : k < l.length := by omega
      obtain ⟨y, hy, -⟩ := drop_at hkl
      have hyt := stands_t (HR.out.2.1 y (List.mem_of_getElem? hy))
      have hyg : l.getD ((k : Int)).toNat ta0 = y := by rw [Int.toNat_natCast, List.getD_eq_getElem?_getD, hy]; rfl
      obtain ⟨c0, c1⟩ := co_at (fun q u hq => below_cell hg.fb.bel (hrow2 q u hq)) hx
      obtain ⟨y0, y1, y2, y3, y4, y5, y6⟩ := ta_at (fun q u hq => below_cell hg.fb.bel (HR.out.1.1 q u hq)) hy
      have l0 := nu_at hrow3 hav
      have m0 := nu_at hrow4 hbv
      have lb3 : b3 < w.heap.size := World.block_lt_of_cell? _ _ l0
      have lb4 : b4 < w.heap.size := World.block_lt_of_cell? _ _ m0
      have HU : Hid (w.cell? ⟨b3, o3 + j, none⟩ = some (.int .i64 av) ∧ w.cell? ⟨b4, o4 + j, none⟩ = some (.int .i64 bv)) := ⟨l0, m0⟩
      replace l0 := below_cell hg.fb.bel l0
      replace m0 := below_cell hg.fb.bel m0
      have lb3r : b3 < wr.heap.size := World.block_lt_of_cell? _ _ l0
      have lb4r : b4 < wr.heap.size := World.block_lt_of_cell? _ _ m0
      have lb2 : b2 < wr.heap.size := World.block_lt_of_cell? _ _ c0
      have lb : b < wr.heap.size := World.block_lt_of_cell? _ _ y0
      have HF : Hid ((match jobOne l ⟨(k : Int), xa⟩ av bv with | none => ((3, (j : Int)), []) | some x => jobsFrom l (acc ++ [x]) (cs.drop (j + 1)) (la.drop (j + 1)) (tk.drop (j + 1)) (j + 1)) = jobsFrom l [] cs la tk 0) := hf
      obtain ⟨jad, jc, rfl⟩ := owns_value hg.row
      have HG : Hid (JO w wr acc (.slice jad acc.length jc) ∧ JO w ((wr.alloc (.cells #[.int .i64 (k : Int), .int .i64 xa] 33)).alloc (.cells #[.string y.nm, .int .i64 y.c, .int .i64 y.t, .int .i64 y.d, .int .i64 y.j, .int .i64 y.o, .int .i64 y.p] 67)) acc (.slice jad acc.length jc)) := ⟨hg, (hg.grow (below_new _ _)).grow (below_new _ _)⟩
      subst hal
      clear hrow2 hrow3 hrow4 hd had hbd hf hg
      go_wp2_with fail
      go_cut [64] from 47 to 64 (fun v wc => v = .bool (jobOne l ⟨(k : Int), xa⟩ av bv).isNone ∧ ∃ n, wc = ((wr.alloc (.cells #[.int .i64 (k : Int), .int .i64 xa] 33)).alloc (.cells #[.string y.nm, .int .i64 y.c, .int .i64 y.t, .int .i64 y.d, .int .i64 y.j, .int .i64 y.o, .int .i64 y.p] 67)).drewN n)
      case first =>
        have hj1 : jobOne l ⟨(k : Int), xa⟩ av bv = if av < 0 ∨ y.j < av ∨ bv < 1 ∨ y.c < bv then none else some ⟨(k : Int), xa + av, bv, xa + y.d, y.p⟩ := by unfold jobOne; dsimp only; rw [hyg]
        have HJ : Hid (jobOne l ⟨(k : Int), xa⟩ av bv = if av < 0 ∨ y.j < av ∨ bv < 1 ∨ y.c < bv then none else some ⟨(k : Int), xa + av, bv, xa + y.d, y.p⟩) := hj1
        clear hj1
        rcases hw1 : within av 0 y.j with _ | _
        · go_quiet (first | (go_at_call 26; exact Calls.quiet_of (Jobs_quiet _ hw1)) | (go_at_call 26; exact Calls.quiet_of (Jobs_quiet _ hw2)))
          go_wp2_with fail
          go_meet
          case rel =>
            refine ⟨?_, nq, rfl⟩
            rw [HJ.out, if_pos (by simp [within] at hw1; omega)]
            rfl
        rcases hw2 : within bv 1 y.c with _ | _
        · go_quiet (first | (go_at_call 26; exact Calls.quiet_of (Jobs_quiet _ hw1)) | (go_at_call 26; exact Calls.quiet_of (Jobs_quiet _ hw2)))
          go_wp2_with fail
          go_meet
          case rel =>
            refine ⟨?_, nq, rfl⟩
            rw [HJ.out, if_pos (by simp [within] at hw2; omega)]
            rfl
        · go_quiet (first | (go_at_call 26; exact Calls.quiet_of (Jobs_quiet _ hw1)) | (go_at_call 26; exact Calls.quiet_of (Jobs_quiet _ hw2)))
          go_wp2_with fail
          go_meet
          case rel =>
            refine ⟨?_, nq, rfl⟩
            rw [HJ.out, if_neg (by simp [within] at hw1 hw2; omega)]
            rfl
      case rest =>
      obtain ⟨rfl, n0, rfl⟩ := hcut
      have HW : Hid (JO w (((wr.alloc (.cells #[.int .i64 (k : Int), .int .i64 xa] 33)).alloc (.cells #[.string y.nm, .int .i64 y.c, .int .i64 y.t, .int .i64 y.d, .int .i64 y.j, .int .i64 y.o, .int .i64 y.p] 67)).drewN n0) acc (.slice jad acc.length jc)) := HG.out.2.grow (below_drewN' (n := n0))
      have t0 : (((wr.alloc (.cells #[.int .i64 (k : Int), .int .i64 xa] 33)).alloc (.cells #[.string y.nm, .int .i64 y.c, .int .i64 y.t, .int .i64 y.d, .int .i64 y.j, .int .i64 y.o, .int .i64 y.p] 67)).drewN n0).cell? ⟨wr.heap.size, 0, none⟩ = some (.int .i64 (k : Int)) := below_cell (below_drewN' (n := n0)) (by go_simp)
      have t1 : (((wr.alloc (.cells #[.int .i64 (k : Int), .int .i64 xa] 33)).alloc (.cells #[.string y.nm, .int .i64 y.c, .int .i64 y.t, .int .i64 y.d, .int .i64 y.j, .int .i64 y.o, .int .i64 y.p] 67)).drewN n0).cell? ⟨wr.heap.size, 1, none⟩ = some (.int .i64 xa) := below_cell (below_drewN' (n := n0)) (by go_simp)
      have t3 : (((wr.alloc (.cells #[.int .i64 (k : Int), .int .i64 xa] 33)).alloc (.cells #[.string y.nm, .int .i64 y.c, .int .i64 y.t, .int .i64 y.d, .int .i64 y.j, .int .i64 y.o, .int .i64 y.p] 67)).drewN n0).cell? ⟨wr.heap.size + 1, 3, none⟩ = some (.int .i64 y.d) := below_cell (below_drewN' (n := n0)) (by go_simp)
      have t6 : (((wr.alloc (.cells #[.int .i64 (k : Int), .int .i64 xa] 33)).alloc (.cells #[.string y.nm, .int .i64 y.c, .int .i64 y.t, .int .i64 y.d, .int .i64 y.j, .int .i64 y.o, .int .i64 y.p] 67)).drewN n0).cell? ⟨wr.heap.size + 1, 6, none⟩ = some (.int .i64 y.p) := below_cell (below_drewN' (n := n0)) (by go_simp)
      have hB5 : Below wr.heap.size wr (((wr.alloc (.cells #[.int .i64 (k : Int), .int .i64 xa] 33)).alloc (.cells #[.string y.nm, .int .i64 y.c, .int .i64 y.t, .int .i64 y.d, .int .i64 y.j, .int .i64 y.o, .int .i64 y.p] 67)).drewN n0) := below_seq (below_seq (below_new _ _) (below_new _ _)) (below_drewN' (n := n0))
      replace l0 := below_cell hB5 l0
      replace m0 := below_cell hB5 m0
      have HO : Hid (∀ q, (Value.slice jad acc.length jc).ownBlock = some q → q < wr.heap.size) := fun q hq => (HG.out.1.row.lt q hq).2
      have hlT : wr.heap.size + 1 < (((wr.alloc (.cells #[.int .i64 (k : Int), .int .i64 xa] 33)).alloc (.cells #[.string y.nm, .int .i64 y.c, .int .i64 y.t, .int .i64 y.d, .int .i64 y.j, .int .i64 y.o, .int .i64 y.p] 67)).drewN n0).heap.size := World.block_lt_of_cell? _ _ t3
      clear hB5 HG c0 c1 y0 y1 y2 y3 y4 y5 y6 lb2 lb lb3r lb4r
      generalize ((wr.alloc (.cells #[.int .i64 (k : Int), .int .i64 xa] 33)).alloc (.cells #[.string y.nm, .int .i64 y.c, .int .i64 y.t, .int .i64 y.d, .int .i64 y.j, .int .i64 y.o, .int .i64 y.p] 67)).drewN n0 = W5 at *
      generalize wr.heap.size = T at *
      rcases hjo : jobOne l ⟨(k : Int), xa⟩ av bv with _ | x
      · have e := HF.out
        rw [hjo] at e
        have HE : Hid (((3, (acc.length : Int)), []) = jobsFrom l [] cs la tk 0) := e
        clear e
        obtain ⟨rs1, rf1, rl1⟩ := cells_of (l := [_, _]) HW.out.fb.res
        have r10 := rs1 0 _ rfl
        have r11 := rs1 1 _ rfl
        have f10 := rf1 0
        have f11 := rf1 1
        clear rs1 rf1
        go_wp2_with fail
        refine bodyPost_ret (Jobs_ends (g := w.heap.size) (c := .int .i64 3) (k := .int .i64 (acc.length : Int)) (set_two HW.out.fb.res) rfl rfl) rfl ?_
        rw [← HE.out]
        exact ⟨_, rfl, Jobs_nil _ _, HW.out.fb.set _ _⟩
      · have e := HF.out
        rw [hjo] at e
        have hxe : x = ⟨(k : Int), xa + av, bv, xa + y.d, y.p⟩ ∧ ¬ (av < 0 ∨ y.j < av ∨ bv < 1 ∨ y.c < bv) := by
          unfold jobOne at hjo
          dsimp only at hjo
          rw [hyg] at hjo
          by_cases hq : av < 0 ∨ y.j < av ∨ bv < 1 ∨ y.c < bv
          · rw [if_pos hq] at hjo; cases hjo
          · rw [if_neg hq] at hjo; cases hjo; exact ⟨rfl, hq⟩
        obtain ⟨rfl, hq⟩ := hxe
        have HE : Hid (jobsFrom l (acc ++ [⟨(k : Int), xa + av, bv, xa + y.d, y.p⟩]) (cs.drop (acc.length + 1)) (la.drop (acc.length + 1)) (tk.drop (acc.length + 1)) (acc.length + 1) = jobsFrom l [] cs la tk 0) := e
        clear e hjo
        obtain ⟨ad9, c9, w9, hrun, hjo9, hb9, hold9⟩ := (HW.out.grow (Below.refl _ W5).drew).push ⟨(k : Int), xa + av, bv, xa + y.d, y.p⟩ (by omega)
        dsimp only at hrun
        have HJ9 : Hid (JO w w9 (acc ++ [⟨(k : Int), xa + av, bv, xa + y.d, y.p⟩]) (.slice ad9 (acc.length + 1) c9)) := hjo9
        have hS0 : W5.drew.cell? ⟨T, 0, none⟩ = some (.int .i64 (k : Int)) ∧ W5.drew.cell? ⟨T, 1, none⟩ = some (.int .i64 xa) ∧ W5.drew.cell? ⟨T + 1, 3, none⟩ = some (.int .i64 y.d) ∧ W5.drew.cell? ⟨T + 1, 6, none⟩ = some (.int .i64 y.p) ∧ W5.drew.cell? ⟨b3, o3 + acc.length, none⟩ = some (.int .i64 av) ∧ W5.drew.cell? ⟨b4, o4 + acc.length, none⟩ = some (.int .i64 bv) := ⟨t0, t1, t3, t6, l0, m0⟩
        have hS9 : w9.cell? ⟨T, 0, none⟩ = some (.int .i64 (k : Int)) ∧ w9.cell? ⟨T, 1, none⟩ = some (.int .i64 xa) ∧ w9.cell? ⟨T + 1, 3, none⟩ = some (.int .i64 y.d) ∧ w9.cell? ⟨T + 1, 6, none⟩ = some (.int .i64 y.p) ∧ w9.cell? ⟨b3, o3 + acc.length, none⟩ = some (.int .i64 av) ∧ w9.cell? ⟨b4, o4 + acc.length, none⟩ = some (.int .i64 bv) := by
          have kT := hold9 T (show T < W5.heap.size by omega) (fun e => by have := HO.out T e.symm; omega)
          have kT1 := hold9 (T + 1) (show T + 1 < W5.heap.size by omega) (fun e => by have := HO.out (T + 1) e.symm; omega)
          obtain ⟨a0, a1, a2, a3, a4, a5⟩ := hS0
          refine ⟨(World.cell?_of_block (w := W5.drew) kT).trans a0, (World.cell?_of_block (w := W5.drew) kT).trans a1, (World.cell?_of_block (w := W5.drew) kT1).trans a2, (World.cell?_of_block (w := W5.drew) kT1).trans a3, (hb9.cell (by show b3 < w.heap.size + 1; omega)).trans a4, (hb9.cell (by show b4 < w.heap.size + 1; omega)).trans a5⟩
        clear hjo9 hb9 hold9
        have hwr1 : IntKind.i64.wrap (xa + av) = xa + av := by rw [IntKind.wrap_i64]; omega
        have hwr2 : IntKind.i64.wrap (xa + y.d) = xa + y.d := by rw [IntKind.wrap_i64]; omega
        go_wp2_with fail
        refine wp_region_noPanic ?_
        refine wp_region_held_drew (S := fun w' => w'.cell? ⟨T, 0, none⟩ = some (.int .i64 (k : Int)) ∧ w'.cell? ⟨T, 1, none⟩ = some (.int .i64 xa) ∧ w'.cell? ⟨T + 1, 3, none⟩ = some (.int .i64 y.d) ∧ w'.cell? ⟨T + 1, 6, none⟩ = some (.int .i64 y.p) ∧ w'.cell? ⟨b3, o3 + acc.length, none⟩ = some (.int .i64 av) ∧ w'.cell? ⟨b4, o4 + acc.length, none⟩ = some (.int .i64 bv)) (by kernel_rfl) hS0 (fun hHeld => ?_)
        refine take_at (i := 0) (n := 67) (v := ?_) rfl rfl (by kernel_rfl) (by kernel_rfl) (by kernel_rfl) (fun _ _ _ h => h) (Or.inl ⟨by rfl, ?_⟩) (by assumption) ?_
        rotate_left 1
        · intro wz hSw
          obtain ⟨s0, s1, s2, s3, s4, s5⟩ := hSw
          first | (go_simp; done) | (go_simp; with_reducible rfl)
        simp only [List.set_cons_zero, List.set_cons_succ]
        refine take_at (i := 1) (n := 68) (v := ?_) rfl rfl (by kernel_rfl) (by kernel_rfl) (by kernel_rfl) (fun _ _ _ h => h) (Or.inl ⟨by rfl, ?_⟩) (by assumption) ?_
        rotate_left 1
        · intro wz hSw
          obtain ⟨s0, s1, s2, s3, s4, s5⟩ := hSw
          first | (go_simp; done) | (go_simp; with_reducible rfl)
        simp only [List.set_cons_zero, List.set_cons_succ]
        refine take_at (i := 2) (n := 69) (v := ?_) rfl rfl (by kernel_rfl) (by kernel_rfl) (by kernel_rfl) (fun _ _ _ h => h) (Or.inl ⟨by rfl, ?_⟩) (by assumption) ?_
        rotate_left 1
        · intro wz hSw
          obtain ⟨s0, s1, s2, s3, s4, s5⟩ := hSw
          first | (go_simp; done) | (go_simp; with_reducible rfl)
        simp only [List.set_cons_zero, List.set_cons_succ]
        refine take_at (i := 3) (n := 70) (v := ?_) rfl rfl (by kernel_rfl) (by kernel_rfl) (by kernel_rfl) (fun _ _ _ h => h) (Or.inl ⟨by rfl, ?_⟩) (by assumption) ?_
        rotate_left 1
        · intro wz hSw
          obtain ⟨s0, s1, s2, s3, s4, s5⟩ := hSw
          first | (go_simp; done) | (go_simp; with_reducible rfl)
        simp only [List.set_cons_zero, List.set_cons_succ]
        refine take_at (i := 4) (n := 71) (v := ?_) rfl rfl (by kernel_rfl) (by kernel_rfl) (by kernel_rfl) (fun _ _ _ h => h) (Or.inl ⟨by rfl, ?_⟩) (by assumption) ?_
        rotate_left 1
        · intro wz hSw
          obtain ⟨s0, s1, s2, s3, s4, s5⟩ := hSw
          first | (go_simp; done) | (go_simp; with_reducible rfl)
        simp only [List.set_cons_zero, List.set_cons_succ]
        refine take_at (i := 5) (n := 72) (v := ?_) rfl rfl (by kernel_rfl) (by kernel_rfl) (by kernel_rfl) (fun _ _ _ h => h) (Or.inl ⟨by rfl, ?_⟩) (by assumption) ?_
        rotate_left 1
        · intro wz hSw
          obtain ⟨s0, s1, s2, s3, s4, s5⟩ := hSw
          first | (go_simp; done) | (go_simp; with_reducible rfl)
        simp only [List.set_cons_zero, List.set_cons_succ]
        refine take_at (i := 6) (n := 73) (v := ?_) rfl rfl (by kernel_rfl) (by kernel_rfl) (by kernel_rfl) (fun _ _ _ h => h) (Or.inl ⟨by rfl, ?_⟩) (by assumption) ?_
        rotate_left 1
        · intro wz hSw
          obtain ⟨s0, s1, s2, s3, s4, s5⟩ := hSw
          first | (go_simp; done) | (go_simp; with_reducible rfl)
        simp only [List.set_cons_zero, List.set_cons_succ]
        refine take_at (i := 7) (n := 74) (v := ?_) rfl rfl (by kernel_rfl) (by kernel_rfl) (by kernel_rfl) (fun _ _ _ h => h) (Or.inl ⟨by rfl, ?_⟩) (by assumption) ?_
        rotate_left 1
        · intro wz hSw
          obtain ⟨s0, s1, s2, s3, s4, s5⟩ := hSw
          first | (go_simp; done) | (go_simp; with_reducible rfl)
        simp only [List.set_cons_zero, List.set_cons_succ]
        refine take_at (i := 8) (n := 75) (v := ?_) rfl rfl (by kernel_rfl) (by kernel_rfl) (by kernel_rfl) (fun _ _ _ h => h) (Or.inl ⟨by rfl, ?_⟩) (by assumption) ?_
        rotate_left 1
        · intro wz hSw
          obtain ⟨s0, s1, s2, s3, s4, s5⟩ := hSw
          first | (go_simp; done) | (go_simp; with_reducible rfl)
        simp only [List.set_cons_zero, List.set_cons_succ]
        refine take_at (i := 9) (n := 76) (v := ?_) rfl rfl (by kernel_rfl) (by kernel_rfl) (by kernel_rfl) (fun _ _ _ h => h) (Or.inl ⟨by rfl, ?_⟩) (by assumption) ?_
        rotate_left 1
        · intro wz hSw
          obtain ⟨s0, s1, s2, s3, s4, s5⟩ := hSw
          first | (go_simp; done) | (go_simp; with_reducible rfl)
        simp only [List.set_cons_zero, List.set_cons_succ]
        refine take_at (i := 10) (n := 77) (v := ?_) rfl rfl (by kernel_rfl) (by kernel_rfl) (by kernel_rfl) (fun _ _ _ h => h) (Or.inl ⟨by rfl, ?_⟩) (by assumption) ?_
        rotate_left 1
        · intro wz hSw
          obtain ⟨s0, s1, s2, s3, s4, s5⟩ := hSw
          first | (go_simp; done) | (go_simp; with_reducible rfl)
        simp only [List.set_cons_zero, List.set_cons_succ]
        refine take_at (i := 11) (n := 78) (v := ?_) rfl rfl (by kernel_rfl) (by kernel_rfl) (by kernel_rfl) (fun _ _ _ h => h) (Or.inl ⟨by rfl, ?_⟩) (by assumption) ?_
        rotate_left 1
        · intro wz hSw
          obtain ⟨s0, s1, s2, s3, s4, s5⟩ := hSw
          first | (go_simp; done) | (go_simp; with_reducible rfl)
        simp only [List.set_cons_zero, List.set_cons_succ]
        refine take_at (i := 12) (n := 79) (v := ?_) rfl rfl (by kernel_rfl) (by kernel_rfl) (by kernel_rfl) (fun _ _ _ h => h) (Or.inl ⟨by rfl, ?_⟩) (by assumption) ?_
        rotate_left 1
        · intro wz hSw
          obtain ⟨s0, s1, s2, s3, s4, s5⟩ := hSw
          first | (go_simp; done) | (go_simp; with_reducible rfl)
        simp only [List.set_cons_zero, List.set_cons_succ]
        refine take_at (i := 13) (n := 80) (v := ?_) rfl rfl (by kernel_rfl) (by kernel_rfl) (by kernel_rfl) (fun _ _ _ h => h) (Or.inl ⟨by rfl, ?_⟩) (by assumption) ?_
        rotate_left 1
        · intro wz hSw
          obtain ⟨s0, s1, s2, s3, s4, s5⟩ := hSw
          first | (go_simp; done) | (go_simp; with_reducible rfl)
        simp only [List.set_cons_zero, List.set_cons_succ]
        refine take_at (i := 14) (n := 81) (v := ?_) rfl rfl (by kernel_rfl) (by kernel_rfl) (by kernel_rfl) (fun _ _ _ h => h) (Or.inl ⟨by rfl, ?_⟩) (by assumption) ?_
        rotate_left 1
        · intro wz hSw
          obtain ⟨s0, s1, s2, s3, s4, s5⟩ := hSw
          first | (go_simp; done) | (go_simp; with_reducible rfl)
        simp only [List.set_cons_zero, List.set_cons_succ]
        refine take_at (i := 15) (n := 82) (v := ?_) rfl rfl (by kernel_rfl) (by kernel_rfl) (by kernel_rfl) (fun _ _ _ h => h) (Or.inl ⟨by rfl, ?_⟩) (by assumption) ?_
        rotate_left 1
        · intro wz hSw
          obtain ⟨s0, s1, s2, s3, s4, s5⟩ := hSw
          first | (go_simp; done) | (go_simp; with_reducible rfl)
        simp only [List.set_cons_zero, List.set_cons_succ]
        refine take_at (i := 16) (n := 83) (v := ?_) rfl rfl (by kernel_rfl) (by kernel_rfl) (by kernel_rfl) (fun _ _ _ h => h) (Or.inl ⟨by rfl, ?_⟩) (by assumption) ?_
        rotate_left 1
        · intro wz hSw
          obtain ⟨s0, s1, s2, s3, s4, s5⟩ := hSw
          first | (go_simp; done) | (go_simp; with_reducible rfl)
        simp only [List.set_cons_zero, List.set_cons_succ]
        refine take_at (i := 17) (n := 84) (v := ?_) rfl rfl (by kernel_rfl) (by kernel_rfl) (by kernel_rfl) (fun _ _ _ h => h) (Or.inl ⟨by rfl, ?_⟩) (by assumption) ?_
        rotate_left 1
        · intro wz hSw
          obtain ⟨s0, s1, s2, s3, s4, s5⟩ := hSw
          first | (go_simp; done) | (go_simp; with_reducible rfl)
        simp only [List.set_cons_zero, List.set_cons_succ]
        refine take_at (i := 18) (n := 85) (v := ?_) rfl rfl (by kernel_rfl) (by kernel_rfl) (by kernel_rfl) (fun _ _ _ h => h) (Or.inl ⟨by rfl, ?_⟩) (by assumption) ?_
        rotate_left 1
        · intro wz hSw
          obtain ⟨s0, s1, s2, s3, s4, s5⟩ := hSw
          first | (go_simp; done) | (go_simp; with_reducible rfl)
        simp only [List.set_cons_zero, List.set_cons_succ]
        refine take_at (i := 19) (n := 86) (v := ?_) rfl rfl (by kernel_rfl) (by kernel_rfl) (by kernel_rfl) (fun _ _ _ h => h) (Or.inl ⟨by rfl, ?_⟩) (by assumption) ?_
        rotate_left 1
        · intro wz hSw
          obtain ⟨s0, s1, s2, s3, s4, s5⟩ := hSw
          first | (go_simp; done) | (go_simp; with_reducible rfl)
        simp only [List.set_cons_zero, List.set_cons_succ]
        refine take_at (i := 20) (n := 87) (v := ?_) rfl rfl (by kernel_rfl) (by kernel_rfl) (by kernel_rfl) (fun _ _ _ h => h) (Or.inl ⟨by rfl, ?_⟩) (by assumption) ?_
        rotate_left 1
        · intro wz hSw
          obtain ⟨s0, s1, s2, s3, s4, s5⟩ := hSw
          first | (go_simp; done) | (go_simp; with_reducible rfl)
        simp only [List.set_cons_zero, List.set_cons_succ]
        refine take_at (i := 21) (n := 88) (v := ?_) rfl rfl (by kernel_rfl) (by kernel_rfl) (by kernel_rfl) (fun _ _ _ h => h) (Or.inl ⟨by rfl, ?_⟩) (by assumption) ?_
        rotate_left 1
        · intro wz hSw
          obtain ⟨s0, s1, s2, s3, s4, s5⟩ := hSw
          first | (go_simp; done) | (go_simp; with_reducible rfl)
        simp only [List.set_cons_zero, List.set_cons_succ]
        refine wpAnyH_ready (rs := [22]) (by kernel_rfl) (by simp) ?_
        refine AllReadyH.cons rfl (fun K hK => ?_) AllReadyH.nil
        go_simp
        refine hK.out _ _ (by obtain ⟨a0, a1, a2, a3, a4, a5⟩ := hS0; exact ⟨below_cell (below_new _ _) a0, below_cell (below_new _ _) a1, below_cell (below_new _ _) a2, below_cell (below_new _ _) a3, below_cell (below_new _ _) a4, below_cell (below_new _ _) a5⟩) (fun hHeld => ?_)
        clear hK K
        refine wpAnyH_ready (rs := [23]) (by kernel_rfl) (by simp) ?_
        refine AllReadyH.cons rfl (fun K hK => ?_) AllReadyH.nil
        refine region_append rfl (.tmp 67) (.tmp 89) 45 rfl rfl rfl hrun ?_
        refine hK.out _ _ hS9 (fun hHeld => ?_)
        clear hK K
        refine take_at (i := 24) (n := 11) (v := ?_) rfl rfl (by kernel_rfl) (by kernel_rfl) (by kernel_rfl) (fun _ _ _ h => h) (Or.inl ⟨by rfl, ?_⟩) (by assumption) ?_
        rotate_left 1
        · intro wz hSw
          obtain ⟨s0, s1, s2, s3, s4, s5⟩ := hSw
          first | (go_simp; done) | (go_simp; with_reducible rfl)
        simp only [List.set_cons_zero, List.set_cons_succ]
        refine wpAnyH_done (by kernel_rfl) ?_ _
        refine NoPanic.normal ?_
        clear hS0 hS9 hHeld hrun
        go_wp2_with fail
        exact ⟨⟨acc.length + 1, acc ++ [⟨(k : Int), xa + av, bv, xa + y.d, y.p⟩], by omega, by simp, HJ9.out, by simp, HE.out⟩, by simp [intOf]; omega⟩
    · have hje : j = cs.length := by omega
      subst hje
      rw [List.drop_length, jobsFrom_end] at hf
      obtain ⟨jad, jc, rfl⟩ := owns_value hg.row
      have HW : Hid (JO w wr acc (.slice jad acc.length jc)) := hg
      obtain ⟨rs1, rf1, rl1⟩ := cells_of (l := [_, _]) hg.fb.res
      have r10 := rs1 0 _ rfl
      have r11 := rs1 1 _ rfl
      have f10 := rf1 0
      have f11 := rf1 1
      have HE : Hid (((0, 0), acc) = jobsFrom l [] cs la tk 0) := hf
      clear rs1 rf1 hf hg
      go_wp2_with fail
      refine bodyPost_ret (Jobs_ends (g := w.heap.size) (c := .int .i64 0) (k := .int .i64 0) (p := .slice jad acc.length jc) (set_two HW.out.fb.res) rfl rfl) rfl ?_
      rw [← HE.out]
      refine ⟨.slice jad acc.length jc, rfl, ?_, HW.out.fb.set _ _⟩
      refine ownsRow_keep2 HW.out.row (fun q hq => ?_)
      have hq1 := (HW.out.row.lt q hq).1
      rw [Below.heap_setCell _ _ _ _ (by show q ≠ w.heap.size; omega), Below.heap_setCell _ _ _ _ (by show q ≠ w.heap.size; omega)]

/-- tasks.Jobs. -/
theorem Jobs_any (w : World) (l : List Ta) (cs : List Co) (la tk : List Int) (v v2 v3 v4 : Value) (hv : RowSl Ta.vals w l v) (hv2 : RowSl Co.vals w cs v2) (hv3 : RowSl nuV w la v3) (hv4 : RowSl nuV w tk v4) : Calls Try.prog 11 #[v, v2, v3, v4] w fun r w' => ∃ u, r = .returned (.tuple #[u, .agg #[.int .i64 (jobsF l cs la tk).1.1, .int .i64 (jobsF l cs la tk).1.2]]) ∧ w'.ownsRow (w.heap.size + 1) 72 5 u (jobsF l cs la tk).2.length ((jobsF l cs la tk).2.flatMap Jb.vals) ∧ Below w.heap.size w w' := by
  unfold jobsF
  by_cases h0 : (legF l cs).1 = 0
  · rw [if_neg (by simpa using h0)]
    by_cases hn : la.length ≠ cs.length ∨ tk.length ≠ cs.length
    · rw [if_pos hn]
      obtain ⟨ad3, c3, rfl⟩ := hv3.len
      obtain ⟨ad4, c4, rfl⟩ := hv4.len
      refine (Jobs_many w l cs v v2 ad3 ad4 la.length c3 tk.length c4 hv hv2 h0 hn).mono ?_
      rintro r w' ⟨rfl, hb⟩
      exact ⟨_, rfl, Jobs_nil _ _, hb⟩
    · rw [if_neg hn]
      exact Jobs_walk w l cs la tk v v2 v3 v4 hv hv2 hv3 hv4 h0 (by omega) (by omega)
  · rw [if_pos h0]
    refine (Jobs_bad w l cs v v2 v3 v4 hv hv2 h0).mono ?_
    rintro r w' ⟨rfl, hb⟩
    exact ⟨_, rfl, Jobs_nil _ _, hb⟩
end Go.Proofs.Ytccoobcggbbciai
