import Derived.Test.YtccoobcggbbciadDoorRJ0
namespace Go.Proofs.YtccoobcggbbciadDoor
open Go.ChangeShapes Go.WideShapes Go.ChangeAt Go.RowKit

/-- Which numbers of a line's words have been read. -/
def NumsAt (ws : List ByteArray) (j : Nat) (vs : List Int) (bd : Bool) : Prop :=
  if bd = true then ∃ (k : Nat) (b : ByteArray), 1 ≤ k ∧ k < 7 ∧ ws[k]? = some b ∧ numF b.data.toList = none
  else ∀ k : Nat, 1 ≤ k → k < j → ∃ (b : ByteArray) (n : Int), ws[k]? = some b ∧ numF b.data.toList = some n ∧ vs[k]? = some n

theorem numsAt_bad {ws : List ByteArray} {j : Nat} {b : ByteArray} (h1 : 1 ≤ j) (h7 : j < 7) (hb : ws[j]? = some b) (hn : numF b.data.toList = none) (i : Nat) (vs : List Int) : NumsAt ws i vs true := by
  unfold NumsAt
  rw [if_pos rfl]
  exact ⟨j, b, h1, h7, hb, hn⟩

theorem numsAt_ok {ws : List ByteArray} {j : Nat} {vs : List Int} {b : ByteArray} {n : Int} (h : NumsAt ws j vs false) (hb : ws[j]? = some b) (hn : numF b.data.toList = some n) (hl : j < vs.length) : NumsAt ws (j + 1) (vs.set j n) false := by
  unfold NumsAt at h ⊢
  rw [if_neg (by simp)] at h ⊢
  intro k h1 h2
  by_cases hk : k = j
  · subst hk
    exact ⟨b, n, hb, hn, by rw [List.getElem?_set_self hl]⟩
  · obtain ⟨b', n', e1, e2, e3⟩ := h k h1 (by omega)
    exact ⟨b', n', e1, e2, by rw [List.getElem?_set_ne (fun e => hk e.symm)]; exact e3⟩

theorem numD_big {b : ByteArray} {n : Int} (ha : Lib.atoiAll b.data.toList = .ok n) (h : ¬ (0 ≤ n ∧ n ≤ 99999 ∧ Lib.itoa n = b.data.toList)) : numF b.data.toList = none := by
  rw [← numD_eq]
  unfold numD
  rw [ha]
  simp only
  rw [if_neg h]

theorem numD_ok {b : ByteArray} {n : Int} (ha : Lib.atoiAll b.data.toList = .ok n) (h : 0 ≤ n ∧ n ≤ 99999 ∧ Lib.itoa n = b.data.toList) : numF b.data.toList = some n := by
  rw [← numD_eq]
  unfold numD
  rw [ha]
  simp only
  rw [if_pos h]

/-- Where a line's numbers are put. -/
def VW (w3 W : World) (vs : List Int) : Prop := Below w3.heap.size w3 W ∧ W.heap[w3.heap.size]? = some (.cells (vs.map (Value.int .i64)).toArray 119 (0, 0))

theorem VW.grow {w3 W W' : World} {vs : List Int} (h : VW w3 W vs) (hb : Below W.heap.size W W') : VW w3 W' vs := ⟨below_seq h.1 hb, (hb.block _ (Array.getElem?_eq_some_iff.1 h.2).1).trans h.2⟩

theorem VW.put {w3 W : World} {vs : List Int} (h : VW w3 W vs) (j : Nat) (n : Int) : VW w3 (W.setCell ⟨w3.heap.size, j, none⟩ (.int .i64 n)) (vs.set j n) := by
  refine ⟨h.1.setCell (Nat.le_refl _) _, ?_⟩
  rw [setCell_at h.2]
  simp [List.map_set]

theorem VW.at {w3 W : World} {vs : List Int} (h : VW w3 W vs) {j : Nat} (hj : j < vs.length) : (∃ n, W.cell? ⟨w3.heap.size, j, none⟩ = some (.int .i64 n)) ∧ W.frozen? ⟨w3.heap.size, j, none⟩ = false ∧ w3.heap.size < W.heap.size := by
  obtain ⟨c, f, l⟩ := cells_of h.2
  exact ⟨⟨vs[j], c j _ (by rw [List.getElem?_map, List.getElem?_eq_getElem hj]; rfl)⟩, f j, l⟩

theorem sev_of {W : World} {gw gv : Nat} {b0 b1 b2 b3 b4 b5 b6 : ByteArray} {n0 n1 n2 n3 n4 n5 n6 : Int} (h1 : W.heap[gw]? = some (.cells ([b0, b1, b2, b3, b4, b5, b6].map Value.string).toArray 9 (0, 0))) (h2 : W.heap[gv]? = some (.cells ([n0, n1, n2, n3, n4, n5, n6].map (Value.int .i64)).toArray 119 (0, 0))) :
    W.cell? ⟨gw, 0, none⟩ = some (.string b0) ∧ W.cell? ⟨gv, 1, none⟩ = some (.int .i64 n1) ∧ W.cell? ⟨gv, 2, none⟩ = some (.int .i64 n2) ∧ W.cell? ⟨gv, 3, none⟩ = some (.int .i64 n3) ∧ W.cell? ⟨gv, 4, none⟩ = some (.int .i64 n4) ∧ W.cell? ⟨gv, 5, none⟩ = some (.int .i64 n5) ∧ W.cell? ⟨gv, 6, none⟩ = some (.int .i64 n6) :=
  ⟨(cells_of h1).1 0 _ rfl, (cells_of h2).1 1 _ rfl, (cells_of h2).1 2 _ rfl, (cells_of h2).1 3 _ rfl, (cells_of h2).1 4 _ rfl, (cells_of h2).1 5 _ rfl, (cells_of h2).1 6 _ rfl⟩

theorem region_append {P : Program} {ops : Array Oper} {o : Oper} {a : Act} {w : World} {K : Act → World → Prop} {Q : Exit → Act → World → Prop} {E : Prop} [Decidable (Region.wanted o (yielded ops a.tmps) = true)] (hgd : o.guard = none) (s x : Operand) (t : TypeId)
    (ho : o.op = .call { callee := .builtin .append, args := #[s, x], argTypes := #[t, t] }) {v u v' : Value} {w' : World} (hs : a.eval s = v) (hx : a.eval x = u)
    (hrun : (Builtin.append_ #[t, t] o.type #[v, u]).run P w = .ok v' w') (h : K (a.put o.dst v') w') : if Region.wanted o (yielded ops a.tmps) = true then Oper.wp P o a w K Q else E := by
  have hw : Region.wanted o (yielded ops a.tmps) = true := by simp [Region.wanted, hgd]
  rw [if_pos hw]
  unfold Oper.wp
  simp [execOp, ho, resolve, invoke, builtin, hs, hx, hrun, Result.andThen]
  exact h

/-- What ReadSet holds. -/
structure RSW (w W : World) (g4 : Nat) (LL : List ByteArray) (acc : List Ta) (sv : Value) (m : Int) : Prop where
  tw : TO w W w.heap.size acc sv
  ll : W.heap[g4]? = some (.cells (LL.map Value.string).toArray 9 (0, 0))
  mx : W.cell? ⟨3, 0, none⟩ = some (.int .i64 m)
  e4 : ErrAt W 4
  e5 : ErrAt W 5
  tb : Lib.TabIs Tryd.prog W "internal/strconv.uint64pow10" .u64 Lib.pow10Tab

theorem RSW.grow {w W W' : World} {g4 : Nat} {LL : List ByteArray} {acc : List Ta} {sv : Value} {m : Int} (h : RSW w W g4 LL acc sv m) (hb : Below W.heap.size W W') : RSW w W' g4 LL acc sv m :=
  ⟨h.tw.grow hb, (hb.block _ (Array.getElem?_eq_some_iff.1 h.ll).1).trans h.ll, below_cell hb h.mx, h.e4.below hb, h.e5.below hb, tab_below h.tb hb⟩

set_option maxRecDepth 20000 in
set_option maxHeartbeats 16000000 in
theorem ReadSet_any (w : World) (s : ByteArray) (m : Int) (hm : w.cell? ⟨3, 0, none⟩ = some (.int .i64 m)) (h4 : ErrAt w 4) (h5 : ErrAt w 5) (ht : Lib.TabIs Tryd.prog w "internal/strconv.uint64pow10" .u64 Lib.pow10Tab) :
    Calls Tryd.prog 29 #[.string s] w (ParsePost w s.data.toList) := by
  have H0 : Hid (FB w (w.alloc (.cells #[.int .i64 0, .int .i64 0] 37)) w.heap.size) := FB.start w
  have HG : Hid (w.cell? ⟨3, 0, none⟩ = some (.int .i64 m) ∧ ErrAt w 4 ∧ ErrAt w 5 ∧ Lib.TabIs Tryd.prog w "internal/strconv.uint64pow10" .u64 Lib.pow10Tab) := ⟨hm, h4, h5, ht⟩
  clear hm h4 h5 ht
  by_cases hb : 20000 < s.size
  · have hbi : (20000 : Int) < (s.size : Int) := by omega
    go_enter Tryd.func29, Tryd.ntmps29
    go_wp2_with (go_at_call 21; refine (F_any _ _ _).mono ?_; rintro r w1 ⟨rfl, hb1⟩; have H1 : Hid (FB w w1 w.heap.size) := H0.out.grow hb1; clear hb1; obtain ⟨r10, r11, z10, z11, rl⟩ := H1.out.res2)
    refine bodyPost_ret (ReadSet_ends (set_two H1.out.res) rfl rfl) rfl ?_
    have e : parseF s.data.toList = ([], (2, 0)) := by unfold parseF; rw [if_pos (by rw [size_list]; exact hb)]
    unfold ParsePost
    rw [e]
    exact ⟨_, rfl, RowSl.nil _ _, H1.out.set _ _⟩
  have hbi : ¬ (20000 : Int) < (s.size : Int) := by omega
  have h0 : ¬ 20000 < s.data.toList.length := by rw [size_list]; exact hb
  have hs1 : (w.alloc (.cells #[.int .i64 0, .int .i64 0] 37)).heap.size = w.heap.size + 1 := by simp
  have HSp := SplitAfter_any (w.alloc (.cells #[.int .i64 0, .int .i64 0] 37)) s m (by omega) (below_cell (below_new _ _) HG.out.1)
  rw [hs1] at HSp
  have hA := afters_are s 10
  have hLl : (Lib.splitB ⟨#[10]⟩ 1 (Lib.countB s ⟨#[10]⟩) s).length = Lib.countB s ⟨#[10]⟩ + 1 := Lib.splitB_all ⟨#[10]⟩ (by decide) 1 _ s rfl
  rw [← hLl] at HSp
  generalize Lib.splitB ⟨#[10]⟩ 1 (Lib.countB s ⟨#[10]⟩) s = LL at *
  obtain ⟨ps, hps⟩ : ∃ ps, pcs 10 s.data.toList = ps := ⟨_, rfl⟩
  rw [hps] at hA
  have HPS : Hid (pcs 10 s.data.toList = ps ∧ LL.map (·.data.toList) = ps.dropLast.map (· ++ [10]) ++ [ps.getLastD []] ∧ (∀ p ∈ ps, (10 : UInt8) ∉ p) ∧ (∀ p ∈ ps, p.length ≤ s.size)) := ⟨hps, hA, fun p hp => pcs_mem s.data.toList p (by rw [hps]; exact hp), fun p hp => by have := pcs_len (c := 10) s.data.toList p (by rw [hps]; exact hp); rw [size_list] at this; exact this⟩
  have hpl : LL.length = ps.length := by
    have h1 := congrArg List.length hA
    have h2 := pcsS_ne (c := 10) (sv := []) s.data.toList
    have h3 : ps ≠ [] := fun e => h2 (by unfold pcs at hps; rw [hps, e])
    have h4 : ps.length ≠ 0 := fun e => h3 (List.eq_nil_of_length_eq_zero e)
    simp at h1
    omega
  have hp1 : 1 ≤ ps.length ∧ ps.length ≤ 20001 := by
    have h2 := pcsS_ne (c := 10) (sv := []) s.data.toList
    have h3 : ps ≠ [] := fun e => h2 (by unfold pcs at hps; rw [hps, e])
    have h4 : ps.length ≠ 0 := fun e => h3 (List.eq_nil_of_length_eq_zero e)
    have h5 := pcs_count (c := 10) s.data.toList
    rw [hps, size_list] at h5
    omega
  clear hA hps hLl
  obtain ⟨lb9, p9, has9, hl9, hm9, hk9, -⟩ := line_at HPS.out.2.1 HPS.out.2.2.1 (k := ps.length - 1) (by omega)
  have hcell9 : (LL.map Value.string)[ps.length - 1]? = some (.string lb9) := by rw [List.getElem?_map, hl9.1]; rfl
  have hlast9 : lb9.data.toList = ps.getLastD [] := by
    have h1 : (LL.map (·.data.toList))[ps.length - 1]? = some lb9.data.toList := by rw [List.getElem?_map, hl9.1]; rfl
    rw [HPS.out.2.1, List.getElem?_append_right (by simp)] at h1
    simp at h1
    rw [List.getLastD_eq_getLast?]
    exact h1.symm
  have hemp : lb9.toList.isEmpty = decide (ps.getLastD [] = []) := by
    rw [ByteArray.toList_eq, hlast9]
    cases ps.getLastD [] <;> simp
  have HEm : Hid (lb9.toList.isEmpty = decide (ps.getLastD [] = [])) := hemp
  clear hl9 hm9 hk9 hemp
  go_enter Tryd.func29, Tryd.ntmps29
  go_upto_region 4 with (go_at_call 58; refine HSp.mono ?_; rintro r w1 ⟨rfl, hw1⟩; have H1 : Hid (RSW w w1 (w.heap.size + 1) LL [] (.slice none 0 0) m) := (by
      have hbx : Below (w.alloc (.cells #[.int .i64 0, .int .i64 0] 37)).heap.size (w.alloc (.cells #[.int .i64 0, .int .i64 0] 37)) w1 := (by rw [hw1]; exact below_new _ _)
      have hby : Below w.heap.size w w1 := below_seq (below_new _ _) hbx
      exact ⟨TO.start (H0.out.grow hbx), by rw [hw1, ← hs1]; exact heap_alloc_new _ _, below_cell hby HG.out.1, HG.out.2.1.below hby, HG.out.2.2.1.below hby, tab_below HG.out.2.2.2 hby⟩); clear hw1 HSp)
  clear hs1
  generalize w.heap.size + 1 = g4 at *
  have c9 := (cells_of H1.out.ll).1 _ _ hcell9
  have l9 : g4 < w1.heap.size := (Array.getElem?_eq_some_iff.1 H1.out.ll).1
  have q9 : IntKind.i64.wrap ((LL.length : Int) - 1) = ((ps.length - 1 : Nat) : Int) := by rw [hpl, IntKind.wrap_i64]; omega
  have i9 : ((ps.length - 1 : Nat) : Int) < (LL.length : Int) := by omega
  obtain ⟨nL, hnL⟩ : ∃ nL : Nat, (if ps.getLastD [] = [] then ps.length - 1 else ps.length) = nL := ⟨_, rfl⟩
  go_upto_if 27 with fail
  generalize lb9.toList.isEmpty = eb at *
  go_cut [4] from 28 to 32 (fun v W => v = .slice (some ⟨g4, 0, none⟩) nL ps.length ∧ W = w1)
  case first =>
    by_cases hl0 : ps.getLastD [] = []
    · rw [if_pos hl0] at hnL
      subst hnL
      have hem2 : eb = true := HEm.out.trans (decide_eq_true hl0)
      subst hem2
      clear HEm hl0
      have j9 : ((ps.length - 1 : Nat) : Int) ≤ (ps.length : Int) := by omega
      have j8 : ps.length - 1 ≤ ps.length := by omega
      go_wp2_with fail
      go_meet
      case rel => exact ⟨rfl, rfl⟩
    · rw [if_neg hl0] at hnL
      subst hnL
      have hem2 : eb = false := HEm.out.trans (decide_eq_false hl0)
      subst hem2
      clear HEm hl0
      go_wp2_with fail
      go_meet
      case rel => exact ⟨rfl, rfl⟩
  case rest =>
    obtain ⟨rfl, hwc⟩ := hcut
    have hwc' := hwc.symm
    subst hwc'
    clear hwc c9 l9 q9 i9 hcell9 hlast9 HEm
    have HNL : Hid ((if ps.getLastD [] = [] then ps.length - 1 else ps.length) = nL) := hnL
    have hnl2 : nL ≤ 20001 := by rw [← hnL]; split <;> omega
    clear hnL
    go_wp2_with fail
    go_loopw [5, 35] (fun sv iv wr => ∃ (k : Nat) (acc : List Ta), k < ps.length ∧ k ≤ nL ∧ iv = .int .i64 (k : Int) ∧ acc.length = k ∧ RSW w wr g4 LL acc sv m ∧ Hid (scanF (ps.drop k) acc = scanF ps [] ∧ ∀ x ∈ acc, x.nm.size ≤ 9223372036854775807)) (fun _ iv _ => nL - (intOf iv).toNat)
    case atStart => exact ⟨0, [], by omega, Nat.zero_le _, rfl, rfl, H1.out, ⟨by rw [List.drop_zero], fun x hx => by simp at hx⟩⟩
    case round =>
      obtain ⟨k, acc, hk, hkn, rfl, hal, hrs, HQ⟩ := hrel
      have HR : Hid (RSW w wr g4 LL acc u5 m) := hrs
      have HAL : Hid (acc.length = k) := hal
      clear hrs H1 hal
      obtain ⟨sa, sc, rfl⟩ : ∃ sa sc, u5 = .slice sa acc.length sc := HR.out.tw.val
      by_cases hkl : k < nL
      rotate_left 1
      · have hke : nL = k := by omega
        have HE : Hid (scanF ps [] = (acc, (0, 0))) := by
          have h9 : scanF ps [] = (acc, (0, 0)) := by
            have hl := HNL.out
            by_cases hl0 : ps.getLastD [] = []
            · rw [if_pos hl0] at hl
              obtain ⟨lb, p, has, h1, -, h3, -⟩ := line_at HPS.out.2.1 HPS.out.2.2.1 hk
              obtain ⟨-, -, -, -, ⟨rfl, h4, h5⟩ | ⟨rfl, h4⟩⟩ := h1
              · exact absurd (List.drop_eq_nil_of_le (by omega)) h5
              · rw [← HQ.out.1, h4, h3 rfl, hl0]
                rfl
            · rw [if_neg hl0] at hl
              omega
          exact h9
        have HC := CheckSet_any wr acc _ HQ.out.2 HR.out.tw.rowSl
        obtain ⟨z1, hz1⟩ : ∃ z1, (chkF acc).1 = z1 := ⟨_, rfl⟩
        obtain ⟨z2, hz2⟩ : ∃ z2, (chkF acc).2 = z2 := ⟨_, rfl⟩
        rw [hz1, hz2] at HC
        have HZ : Hid (chkF acc = (z1, z2)) := Prod.ext hz1 hz2
        have HS : Hid (scanF (pcs 10 s.data.toList) [] = (acc, (0, 0))) := by
          have h9 : scanF (pcs 10 s.data.toList) [] = (acc, (0, 0)) := by rw [HPS.out.1]; exact HE.out
          exact h9
        clear hz1 hz2 HQ HE HNL HPS
        subst hke
        clear hkl hk hkn hnl2 hpl hp1
        go_upto_region 24 with (go_at_call 24; refine HC.mono ?_; rintro r w5 ⟨rfl, hb5⟩; have H5 : Hid (TO w (w5.alloc (.cells #[.int .i64 z1, .int .i64 z2] 37)) w.heap.size acc (.slice sa acc.length sc)) := (HR.out.tw.grow hb5).grow (below_new _ _); have l5 : w.heap.size < w5.heap.size := (HR.out.tw.grow hb5).fb.lt; clear hb5 HC)
        obtain ⟨fs, -, fl⟩ := cells_of (l := [_, _]) (heap_alloc_new w5 (.cells #[.int .i64 z1, .int .i64 z2] 37))
        have g0 := fs 0 _ rfl
        have g1 := fs 1 _ rfl
        clear fs
        generalize w5.alloc (.cells #[.int .i64 z1, .int .i64 z2] 37) = w6 at *
        generalize w5.heap.size = gc at *
        obtain ⟨r10, r11, y10, y11, rl⟩ := H5.out.fb.res2
        by_cases hzz : z1 = 0
        · subst hzz
          go_wp2_with fail
          refine bodyPost_ret (ReadSet_ends (set_two H5.out.fb.res) rfl rfl) rfl ?_
          unfold ParsePost
          rw [parse_chk h0 HS.out, if_neg (by rw [HZ.out]; simp)]
          exact ⟨_, rfl, rowTa_own (ownsRow_two H5.out.row (by omega) _ _), H5.out.fb.set _ _⟩
        · have hzn : (z1 != 0) = true := by simpa using hzz
          go_upto_region 25 with fail
          go_region
          all_goals go_wp2_with fail
          all_goals
            refine bodyPost_ret (ReadSet_ends (set_two H5.out.fb.res) rfl rfl) rfl ?_
            unfold ParsePost
            rw [parse_chk h0 HS.out, if_pos (by rw [HZ.out]; exact hzz), HZ.out]
            exact ⟨_, rfl, RowSl.nil _ _, (H5.out.fb.set _ _).drew⟩
      · obtain ⟨lb, p, has, hln, hpm, hlf, hle⟩ := line_at HPS.out.2.1 HPS.out.2.2.1 hk
        have hpn : has = false → p ≠ [] := fun hf => by
          have hl := HNL.out
          have h1 := hle hf
          rw [hlf hf]
          intro e
          rw [if_pos e] at hl
          omega
        have hpz : p.length ≤ 20000 := by have := HPS.out.2.2.2 p hpm; omega
        have hlbz : lb.size ≤ 20001 := by have := hln.2.2.2.1; omega
        have HTr := sh_strings_TrimSuffix lb ⟨#[10]⟩ wr (by omega)
        have HHs := fun W => sh_strings_HasSuffix lb ⟨#[10]⟩ W (by omega)
        rw [show (⟨#[10]⟩ : ByteArray).data.toList = [10] from rfl, hln.2.1] at HTr
        rw [show (⟨#[10]⟩ : ByteArray).data.toList = [10] from rfl, hln.2.2.1] at HHs
        have hW := words_are ⟨p.toArray⟩ 32
        rw [back_list] at hW
        have HSl := sh_strings_Split ⟨p.toArray⟩ ⟨#[32]⟩ m wr (by rw [back_size]; omega) HR.out.mx (by decide)
        have hwl : (Lib.splitB ⟨#[32]⟩ 0 (Lib.countB ⟨p.toArray⟩ ⟨#[32]⟩) ⟨p.toArray⟩).length = Lib.countB ⟨p.toArray⟩ ⟨#[32]⟩ + 1 := Lib.splitB_all ⟨#[32]⟩ (by decide) 0 _ _ rfl
        rw [← hwl] at HSl
        generalize Lib.splitB ⟨#[32]⟩ 0 (Lib.countB ⟨p.toArray⟩ ⟨#[32]⟩) ⟨p.toArray⟩ = ws at *
        clear hwl
        have hwc : ws.length ≤ 20001 := by
          have h1 := congrArg List.length hW
          rw [List.length_map] at h1
          have h2 := pcs_count (c := 32) p
          omega
        have hwz : ∀ b ∈ ws, b.size ≤ 20000 := fun b hb' => by
          have hmem : b.data.toList ∈ pcs 32 p := by rw [← hW]; exact List.mem_map_of_mem hb'
          have h1 := pcs_len (c := 32) p _ hmem
          rw [size_list] at h1
          omega
        have HL : Hid (LineAt ps LL k lb p has ∧ (has = false → p ≠ []) ∧ ws.map (·.data.toList) = pcs 32 p ∧ ∀ b ∈ ws, b.size ≤ 20000) := ⟨hln, hpn, hW, hwz⟩
        have v1 := (cells_of HR.out.ll).1 k (.string lb) (by rw [List.getElem?_map, hln.1]; rfl)
        have l1 : g4 < wr.heap.size := (Array.getElem?_eq_some_iff.1 HR.out.ll).1
        have hki : (k : Int) < (nL : Int) := by omega
        clear hln hpn hW hwz hpm hlf hle
        by_cases hgood : has = true ∧ ws.length = 7
        rotate_left 1
        · have HB : Hid (scanF (pcs 10 s.data.toList) [] = ([], (1, (k : Int)))) := by
            have h9 : scanF (pcs 10 s.data.toList) [] = ([], (1, (k : Int))) := by
              rw [HPS.out.1, ← HQ.out.1]
              have hsb := scan_bad (acc := acc) HL.out.1 HL.out.2.1 (by
                rintro ⟨h1, h2⟩
                have h3 : ws.length ≠ 7 := fun e => hgood ⟨h1, e⟩
                exact h2 ((taskF_words HL.out.2.2.1).1 h3))
              rw [HAL.out] at hsb
              exact hsb
            exact h9
          have hcase : has = false ∨ (has = true ∧ ((ws.length : Int) != 7) = true ∧ ¬ (ws.length : Int) = 7) := by
            cases has with
            | false => exact .inl rfl
            | true =>
              have h3 : ws.length ≠ 7 := fun e => hgood ⟨rfl, e⟩
              exact .inr ⟨rfl, by simp; omega, by omega⟩
          rcases hcase with rfl | ⟨rfl, h7a, h7b⟩
          all_goals
            go_upto_region 12 with (first
          | (go_at_call 60; refine HTr.mono ?_; rintro r w2 ⟨rfl, hw2⟩; have hw3 := hw2.symm; subst hw3; clear hw2 HTr)
          | (go_at_call 59; refine HSl.mono ?_; rintro r w3 ⟨rfl, hw3⟩; have hb3 : Below wr.heap.size wr w3 := (by rw [hw3]; exact below_new _ _); have H3 : Hid (RSW w w3 g4 LL acc (.slice sa acc.length sc) m ∧ w3.heap[wr.heap.size]? = some (.cells (ws.map Value.string).toArray 9 (0, 0))) := ⟨HR.out.grow hb3, by rw [hw3]; exact heap_alloc_new _ _⟩; clear hw3 hb3 HSl)
          | (go_at_call 61; refine (HHs w3).mono ?_; rintro r w4 ⟨rfl, hw4⟩; have hw5 := hw4.symm; subst hw5; clear hw4 HHs))
            go_wp2_with fail
            have H4 : Hid (FB w (w3.alloc (.cells #[.int .i64 0, .int .i64 0, .int .i64 0, .int .i64 0, .int .i64 0, .int .i64 0, .int .i64 0] 119)) w.heap.size) := H3.out.1.tw.fb.grow (below_new _ _)
            clear v1 l1 HR H3 HL
            go_loopw [9, 11] (fun bv iv wr => bv = .bool true ∧ iv = .int .i64 1 ∧ Hid (FB w wr w.heap.size)) (fun _ _ _ => 0)
            case atStart => exact ⟨rfl, rfl, H4.out⟩
            case round =>
              obtain ⟨rfl, rfl, HFB⟩ := hrel
              clear H4
              by_cases hw1 : (1 : Int) < (ws.length : Int)
              all_goals
                go_wp2_with (go_at_call 21; refine (F_any _ _ _).mono ?_; rintro r w8 ⟨rfl, hb8⟩; have H8 : Hid (FB w w8 w.heap.size) := HFB.out.grow hb8; clear hb8; obtain ⟨r10, r11, z10, z11, rl⟩ := H8.out.res2)
                refine bodyPost_ret (ReadSet_ends (set_two H8.out.res) rfl rfl) rfl ?_
                unfold ParsePost
                rw [parse_bad h0 HB.out]
                exact ⟨_, rfl, RowSl.nil _ _, H8.out.set _ _⟩
        · obtain ⟨rfl, h7⟩ := hgood
          obtain ⟨b0, b1, b2, b3, b4, b5, b6, rfl⟩ := seven_of h7
          clear h7 hwc
          go_upto_region 12 with (first
          | (go_at_call 60; refine HTr.mono ?_; rintro r w2 ⟨rfl, hw2⟩; have hw3 := hw2.symm; subst hw3; clear hw2 HTr)
          | (go_at_call 59; refine HSl.mono ?_; rintro r w3 ⟨rfl, hw3⟩; have hb3 : Below wr.heap.size wr w3 := (by rw [hw3]; exact below_new _ _); have H3 : Hid (RSW w w3 g4 LL acc (.slice sa acc.length sc) m ∧ w3.heap[wr.heap.size]? = some (.cells ([b0, b1, b2, b3, b4, b5, b6].map Value.string).toArray 9 (0, 0))) := ⟨HR.out.grow hb3, by rw [hw3]; exact heap_alloc_new _ _⟩; clear hw3 hb3 HSl)
          | (go_at_call 61; refine (HHs w3).mono ?_; rintro r w4 ⟨rfl, hw4⟩; have hw5 := hw4.symm; subst hw5; clear hw4 HHs))
          go_wp2_with fail
          have H4 : Hid (VW w3 (w3.alloc (.cells #[.int .i64 0, .int .i64 0, .int .i64 0, .int .i64 0, .int .i64 0, .int .i64 0, .int .i64 0] 119)) [0, 0, 0, 0, 0, 0, 0]) := ⟨below_new _ _, heap_alloc_new _ _⟩
          clear v1 l1 HR
          generalize wr.heap.size = gw at *
          go_loopw [9, 11] (fun bv iv wr => ∃ (j : Nat) (vs : List Int) (bd : Bool), 1 ≤ j ∧ j ≤ 7 ∧ bv = .bool bd ∧ iv = .int .i64 (j : Int) ∧ vs.length = 7 ∧ Hid (VW w3 wr vs ∧ NumsAt [b0, b1, b2, b3, b4, b5, b6] j vs bd)) (fun _ iv _ => 7 - (intOf iv).toNat)
          case atStart => exact ⟨1, [0, 0, 0, 0, 0, 0, 0], false, by omega, by omega, rfl, rfl, rfl, ⟨H4.out, by unfold NumsAt; rw [if_neg (by simp)]; intro k h1 h2; omega⟩⟩
          case round =>
            obtain ⟨j, vs, bd, hj1, hj7, rfl, rfl, hvl, HJ⟩ := hrel
            clear H4
            have HRS : Hid (RSW w wr g4 LL acc (.slice sa acc.length sc) m ∧ wr.heap[gw]? = some (.cells ([b0, b1, b2, b3, b4, b5, b6].map Value.string).toArray 9 (0, 0))) := ⟨H3.out.1.grow HJ.out.1.1, (HJ.out.1.1.block _ (Array.getElem?_eq_some_iff.1 H3.out.2).1).trans H3.out.2⟩
            cases bd with
            | true =>
              have HFB : Hid (FB w wr w.heap.size) := HRS.out.1.tw.fb
              have HB : Hid (scanF (pcs 10 s.data.toList) [] = ([], (1, (k : Int)))) := by
                have h9 : scanF (pcs 10 s.data.toList) [] = ([], (1, (k : Int))) := by
                  rw [HPS.out.1, ← HQ.out.1]
                  have hsb := scan_bad (acc := acc) HL.out.1 HL.out.2.1 (by
                    rintro ⟨-, h2⟩
                    have h3 := HJ.out.2
                    unfold NumsAt at h3
                    rw [if_pos rfl] at h3
                    obtain ⟨i, b, e1, e2, e3, e4⟩ := h3
                    exact h2 ((taskF_words HL.out.2.2.1).2 i b e1 e2 e3 e4))
                  rw [HAL.out] at hsb
                  exact hsb
                exact h9
              clear HL HQ HPS HRS HJ H3
              by_cases hw1 : (j : Int) < 7
              all_goals
                go_wp2_with (go_at_call 21; refine (F_any _ _ _).mono ?_; rintro r w8 ⟨rfl, hb8⟩; have H8 : Hid (FB w w8 w.heap.size) := HFB.out.grow hb8; clear hb8; obtain ⟨r10, r11, z10, z11, rl⟩ := H8.out.res2)
                refine bodyPost_ret (ReadSet_ends (set_two H8.out.res) rfl rfl) rfl ?_
                unfold ParsePost
                rw [parse_bad h0 HB.out]
                exact ⟨_, rfl, RowSl.nil _ _, H8.out.set _ _⟩
            | false =>
              by_cases hjl : j < 7
              · have hji : (j : Int) < 7 := by omega
                obtain ⟨bj, hbj⟩ : ∃ bj, [b0, b1, b2, b3, b4, b5, b6][j]? = some bj := ⟨[b0, b1, b2, b3, b4, b5, b6][j]'(by simp; omega), List.getElem?_eq_getElem _⟩
                have hbz : bj.size ≤ 20000 := HL.out.2.2.2 bj (List.mem_of_getElem? hbj)
                have HBJ : Hid ([b0, b1, b2, b3, b4, b5, b6][j]? = some bj) := hbj
                have q1 := (cells_of HRS.out.2).1 j (.string bj) (by rw [List.getElem?_map, hbj]; rfl)
                have lq : gw < wr.heap.size := (Array.getElem?_eq_some_iff.1 HRS.out.2).1
                have HAt := Atoi_any wr bj (by omega) HRS.out.1.e4 HRS.out.1.e5
                have HTb : Hid (Lib.TabIs Tryd.prog wr "internal/strconv.uint64pow10" .u64 Lib.pow10Tab) := HRS.out.1.tb
                clear hbj HRS HL HQ HPS H3 HAL HNL
                go_upto_region 17 with (go_at_call 62; refine HAt.mono ?_; rintro r w5 ⟨n, ev, rfl, hb5, hn1, hn2, hres⟩; have H5 : Hid (VW w3 w5 vs) := HJ.out.1.grow hb5; have HT5 : Hid (Lib.TabIs Tryd.prog w5 "internal/strconv.uint64pow10" .u64 Lib.pow10Tab) := tab_below HTb.out hb5; have q5 := below_cell hb5 q1; have l5 : gw < w5.heap.size := Nat.lt_of_lt_of_le lq hb5.size; clear hb5 HAt q1 HTb lq)
                obtain ⟨⟨cn, c5⟩, f5, lv⟩ := H5.out.at (j := j) (by omega)
                rcases hres with ⟨rfl, ha⟩ | ⟨te, pe, rfl, hnd⟩
                · have HA : Hid (Lib.atoiAll bj.data.toList = .ok n) := ha
                  clear ha
                  by_cases hn0 : n < 0
                  · have HNo := numD_big HA.out (by omega)
                    clear HA
                    refine wp_region_noPanic ?_
                    refine wp_region_held_drew (S := fun w' => True) (by kernel_rfl) trivial (fun hHeld => ?_)
                    refine take_at (i := 0) (n := 69) (v := ?_) rfl rfl (by kernel_rfl) (by kernel_rfl) (by kernel_rfl) (fun _ _ _ h => h) (Or.inl ⟨by rfl, ?_⟩) (by assumption) ?_
                    rotate_left 1
                    · intro wz hSw
                      clear hSw
                      first | (go_simp; done) | (go_simp; with_reducible rfl)
                    simp only [List.set_cons_zero, List.set_cons_succ]
                    refine take_at (i := 1) (n := 70) (v := ?_) rfl rfl (by kernel_rfl) (by kernel_rfl) (by kernel_rfl) (fun _ _ _ h => h) (Or.inl ⟨by rfl, ?_⟩) (by assumption) ?_
                    rotate_left 1
                    · intro wz hSw
                      clear hSw
                      first | (go_simp; done) | (go_simp; with_reducible rfl)
                    simp only [List.set_cons_zero, List.set_cons_succ]
                    refine take_at (i := 2) (n := 71) (v := ?_) rfl rfl (by kernel_rfl) (by kernel_rfl) (by kernel_rfl) (fun _ _ _ h => h) (Or.inl ⟨by rfl, ?_⟩) (by assumption) ?_
                    rotate_left 1
                    · intro wz hSw
                      clear hSw
                      first | (go_simp; done) | (go_simp; with_reducible rfl)
                    simp only [List.set_cons_zero, List.set_cons_succ]
                    refine take_at (i := 3) (n := 72) (v := ?_) rfl rfl (by kernel_rfl) (by kernel_rfl) (by kernel_rfl) (fun _ _ _ h => h) (Or.inl ⟨by rfl, ?_⟩) (by assumption) ?_
                    rotate_left 1
                    · intro wz hSw
                      clear hSw
                      first | (go_simp; done) | (go_simp; with_reducible rfl)
                    simp only [List.set_cons_zero, List.set_cons_succ]
                    refine take_at (i := 4) (n := 73) (v := ?_) rfl rfl (by kernel_rfl) (by kernel_rfl) (by kernel_rfl) (fun _ _ _ h => h) (Or.inl ⟨by rfl, ?_⟩) (by assumption) ?_
                    rotate_left 1
                    · intro wz hSw
                      clear hSw
                      first | (go_simp; done) | (go_simp; with_reducible rfl)
                    simp only [List.set_cons_zero, List.set_cons_succ]
                    refine take_at (i := 5) (n := 74) (v := ?_) rfl rfl (by kernel_rfl) (by kernel_rfl) (by kernel_rfl) (fun _ _ _ h => h) (Or.inl ⟨by rfl, ?_⟩) (by assumption) ?_
                    rotate_left 1
                    · intro wz hSw
                      clear hSw
                      first | (go_simp; done) | (go_simp; with_reducible rfl)
                    simp only [List.set_cons_zero, List.set_cons_succ]
                    refine take_at (i := 6) (n := 75) (v := ?_) rfl rfl (by kernel_rfl) (by kernel_rfl) (by kernel_rfl) (fun _ _ _ h => h) (Or.inl ⟨by rfl, ?_⟩) (by assumption) ?_
                    rotate_left 1
                    · intro wz hSw
                      clear hSw
                      first | (go_simp; done) | (go_simp; with_reducible rfl)
                    simp only [List.set_cons_zero, List.set_cons_succ]
                    refine take_at (i := 7) (n := 76) (v := undef) rfl rfl (by kernel_rfl) (by kernel_rfl) (by kernel_rfl) (fun _ _ _ h => h) (Or.inr ⟨by rfl, rfl⟩) (by assumption) ?_
                    simp only [List.set_cons_zero, List.set_cons_succ]
                    refine take_at (i := 8) (n := 77) (v := undef) rfl rfl (by kernel_rfl) (by kernel_rfl) (by kernel_rfl) (fun _ _ _ h => h) (Or.inr ⟨by rfl, rfl⟩) (by assumption) ?_
                    simp only [List.set_cons_zero, List.set_cons_succ]
                    refine take_at (i := 9) (n := 78) (v := ?_) rfl rfl (by kernel_rfl) (by kernel_rfl) (by kernel_rfl) (fun _ _ _ h => h) (Or.inl ⟨by rfl, ?_⟩) (by assumption) ?_
                    rotate_left 1
                    · intro wz hSw
                      clear hSw
                      first | (go_simp; done) | (go_simp; with_reducible rfl)
                    simp only [List.set_cons_zero, List.set_cons_succ]
                    refine take_at (i := 10) (n := 79) (v := ?_) rfl rfl (by kernel_rfl) (by kernel_rfl) (by kernel_rfl) (fun _ _ _ h => h) (Or.inl ⟨by rfl, ?_⟩) (by assumption) ?_
                    rotate_left 1
                    · intro wz hSw
                      clear hSw
                      first | (go_simp; done) | (go_simp; with_reducible rfl)
                    simp only [List.set_cons_zero, List.set_cons_succ]
                    refine take_at (i := 11) (n := 80) (v := undef) rfl rfl (by kernel_rfl) (by kernel_rfl) (by kernel_rfl) (fun _ _ _ h => h) (Or.inr ⟨by rfl, rfl⟩) (by assumption) ?_
                    simp only [List.set_cons_zero, List.set_cons_succ]
                    refine take_at (i := 12) (n := 81) (v := undef) rfl rfl (by kernel_rfl) (by kernel_rfl) (by kernel_rfl) (fun _ _ _ h => h) (Or.inr ⟨by rfl, rfl⟩) (by assumption) ?_
                    simp only [List.set_cons_zero, List.set_cons_succ]
                    refine take_at (i := 13) (n := 82) (v := undef) rfl rfl (by kernel_rfl) (by kernel_rfl) (by kernel_rfl) (fun _ _ _ h => h) (Or.inr ⟨by rfl, rfl⟩) (by assumption) ?_
                    simp only [List.set_cons_zero, List.set_cons_succ]
                    refine take_at (i := 14) (n := 83) (v := undef) rfl rfl (by kernel_rfl) (by kernel_rfl) (by kernel_rfl) (fun _ _ _ h => h) (Or.inr ⟨by rfl, rfl⟩) (by assumption) ?_
                    simp only [List.set_cons_zero, List.set_cons_succ]
                    refine take_at (i := 15) (n := 84) (v := undef) rfl rfl (by kernel_rfl) (by kernel_rfl) (by kernel_rfl) (fun _ _ _ h => h) (Or.inr ⟨by rfl, rfl⟩) (by assumption) ?_
                    simp only [List.set_cons_zero, List.set_cons_succ]
                    refine take_at (i := 16) (n := 85) (v := undef) rfl rfl (by kernel_rfl) (by kernel_rfl) (by kernel_rfl) (fun _ _ _ h => h) (Or.inr ⟨by rfl, rfl⟩) (by assumption) ?_
                    simp only [List.set_cons_zero, List.set_cons_succ]
                    refine take_at (i := 17) (n := 86) (v := undef) rfl rfl (by kernel_rfl) (by kernel_rfl) (by kernel_rfl) (fun _ _ _ h => h) (Or.inr ⟨by rfl, rfl⟩) (by assumption) ?_
                    simp only [List.set_cons_zero, List.set_cons_succ]
                    refine take_at (i := 18) (n := 87) (v := ?_) rfl rfl (by kernel_rfl) (by kernel_rfl) (by kernel_rfl) (fun _ _ _ h => h) (Or.inl ⟨by rfl, ?_⟩) (by assumption) ?_
                    rotate_left 1
                    · intro wz hSw
                      clear hSw
                      first | (go_simp; done) | (go_simp; with_reducible rfl)
                    simp only [List.set_cons_zero, List.set_cons_succ]
                    refine take_at (i := 19) (n := 9) (v := ?_) rfl rfl (by kernel_rfl) (by kernel_rfl) (by kernel_rfl) (fun _ _ _ h => h) (Or.inl ⟨by rfl, ?_⟩) (by assumption) ?_
                    rotate_left 1
                    · intro wz hSw
                      clear hSw
                      first | (go_simp; done) | (go_simp; with_reducible rfl)
                    simp only [List.set_cons_zero, List.set_cons_succ]
                    refine wpAnyH_done (by kernel_rfl) ?_ _
                    refine NoPanic.normal ?_
                    clear hHeld
                    go_wp2_with fail
                    exact ⟨⟨j + 1, vs.set j n, true, by omega, by omega, rfl, by simp, by simpa using hvl, ⟨(H5.out.grow (Below.refl _ _).drew).put j n, numsAt_bad hj1 hjl HBJ.out HNo _ _⟩⟩, by simp [intOf]; omega⟩
                  by_cases hn9 : 99999 < n
                  · have HNo := numD_big HA.out (by omega)
                    clear HA
                    refine wp_region_noPanic ?_
                    refine wp_region_held_drew (S := fun w' => True) (by kernel_rfl) trivial (fun hHeld => ?_)
                    refine take_at (i := 0) (n := 69) (v := ?_) rfl rfl (by kernel_rfl) (by kernel_rfl) (by kernel_rfl) (fun _ _ _ h => h) (Or.inl ⟨by rfl, ?_⟩) (by assumption) ?_
                    rotate_left 1
                    · intro wz hSw
                      clear hSw
                      first | (go_simp; done) | (go_simp; with_reducible rfl)
                    simp only [List.set_cons_zero, List.set_cons_succ]
                    refine take_at (i := 1) (n := 70) (v := ?_) rfl rfl (by kernel_rfl) (by kernel_rfl) (by kernel_rfl) (fun _ _ _ h => h) (Or.inl ⟨by rfl, ?_⟩) (by assumption) ?_
                    rotate_left 1
                    · intro wz hSw
                      clear hSw
                      first | (go_simp; done) | (go_simp; with_reducible rfl)
                    simp only [List.set_cons_zero, List.set_cons_succ]
                    refine take_at (i := 2) (n := 71) (v := ?_) rfl rfl (by kernel_rfl) (by kernel_rfl) (by kernel_rfl) (fun _ _ _ h => h) (Or.inl ⟨by rfl, ?_⟩) (by assumption) ?_
                    rotate_left 1
                    · intro wz hSw
                      clear hSw
                      first | (go_simp; done) | (go_simp; with_reducible rfl)
                    simp only [List.set_cons_zero, List.set_cons_succ]
                    refine take_at (i := 3) (n := 72) (v := ?_) rfl rfl (by kernel_rfl) (by kernel_rfl) (by kernel_rfl) (fun _ _ _ h => h) (Or.inl ⟨by rfl, ?_⟩) (by assumption) ?_
                    rotate_left 1
                    · intro wz hSw
                      clear hSw
                      first | (go_simp; done) | (go_simp; with_reducible rfl)
                    simp only [List.set_cons_zero, List.set_cons_succ]
                    refine take_at (i := 4) (n := 73) (v := ?_) rfl rfl (by kernel_rfl) (by kernel_rfl) (by kernel_rfl) (fun _ _ _ h => h) (Or.inl ⟨by rfl, ?_⟩) (by assumption) ?_
                    rotate_left 1
                    · intro wz hSw
                      clear hSw
                      first | (go_simp; done) | (go_simp; with_reducible rfl)
                    simp only [List.set_cons_zero, List.set_cons_succ]
                    refine take_at (i := 5) (n := 74) (v := ?_) rfl rfl (by kernel_rfl) (by kernel_rfl) (by kernel_rfl) (fun _ _ _ h => h) (Or.inl ⟨by rfl, ?_⟩) (by assumption) ?_
                    rotate_left 1
                    · intro wz hSw
                      clear hSw
                      first | (go_simp; done) | (go_simp; with_reducible rfl)
                    simp only [List.set_cons_zero, List.set_cons_succ]
                    refine take_at (i := 6) (n := 75) (v := ?_) rfl rfl (by kernel_rfl) (by kernel_rfl) (by kernel_rfl) (fun _ _ _ h => h) (Or.inl ⟨by rfl, ?_⟩) (by assumption) ?_
                    rotate_left 1
                    · intro wz hSw
                      clear hSw
                      first | (go_simp; done) | (go_simp; with_reducible rfl)
                    simp only [List.set_cons_zero, List.set_cons_succ]
                    refine take_at (i := 7) (n := 76) (v := ?_) rfl rfl (by kernel_rfl) (by kernel_rfl) (by kernel_rfl) (fun _ _ _ h => h) (Or.inl ⟨by rfl, ?_⟩) (by assumption) ?_
                    rotate_left 1
                    · intro wz hSw
                      clear hSw
                      first | (go_simp; done) | (go_simp; with_reducible rfl)
                    simp only [List.set_cons_zero, List.set_cons_succ]
                    refine take_at (i := 8) (n := 77) (v := ?_) rfl rfl (by kernel_rfl) (by kernel_rfl) (by kernel_rfl) (fun _ _ _ h => h) (Or.inl ⟨by rfl, ?_⟩) (by assumption) ?_
                    rotate_left 1
                    · intro wz hSw
                      clear hSw
                      first | (go_simp; done) | (go_simp; with_reducible rfl)
                    simp only [List.set_cons_zero, List.set_cons_succ]
                    refine take_at (i := 9) (n := 78) (v := ?_) rfl rfl (by kernel_rfl) (by kernel_rfl) (by kernel_rfl) (fun _ _ _ h => h) (Or.inl ⟨by rfl, ?_⟩) (by assumption) ?_
                    rotate_left 1
                    · intro wz hSw
                      clear hSw
                      first | (go_simp; done) | (go_simp; with_reducible rfl)
                    simp only [List.set_cons_zero, List.set_cons_succ]
                    refine take_at (i := 10) (n := 79) (v := ?_) rfl rfl (by kernel_rfl) (by kernel_rfl) (by kernel_rfl) (fun _ _ _ h => h) (Or.inl ⟨by rfl, ?_⟩) (by assumption) ?_
                    rotate_left 1
                    · intro wz hSw
                      clear hSw
                      first | (go_simp; done) | (go_simp; with_reducible rfl)
                    simp only [List.set_cons_zero, List.set_cons_succ]
                    refine take_at (i := 11) (n := 80) (v := undef) rfl rfl (by kernel_rfl) (by kernel_rfl) (by kernel_rfl) (fun _ _ _ h => h) (Or.inr ⟨by rfl, rfl⟩) (by assumption) ?_
                    simp only [List.set_cons_zero, List.set_cons_succ]
                    refine take_at (i := 12) (n := 81) (v := undef) rfl rfl (by kernel_rfl) (by kernel_rfl) (by kernel_rfl) (fun _ _ _ h => h) (Or.inr ⟨by rfl, rfl⟩) (by assumption) ?_
                    simp only [List.set_cons_zero, List.set_cons_succ]
                    refine take_at (i := 13) (n := 82) (v := undef) rfl rfl (by kernel_rfl) (by kernel_rfl) (by kernel_rfl) (fun _ _ _ h => h) (Or.inr ⟨by rfl, rfl⟩) (by assumption) ?_
                    simp only [List.set_cons_zero, List.set_cons_succ]
                    refine take_at (i := 14) (n := 83) (v := undef) rfl rfl (by kernel_rfl) (by kernel_rfl) (by kernel_rfl) (fun _ _ _ h => h) (Or.inr ⟨by rfl, rfl⟩) (by assumption) ?_
                    simp only [List.set_cons_zero, List.set_cons_succ]
                    refine take_at (i := 15) (n := 84) (v := undef) rfl rfl (by kernel_rfl) (by kernel_rfl) (by kernel_rfl) (fun _ _ _ h => h) (Or.inr ⟨by rfl, rfl⟩) (by assumption) ?_
                    simp only [List.set_cons_zero, List.set_cons_succ]
                    refine take_at (i := 16) (n := 85) (v := undef) rfl rfl (by kernel_rfl) (by kernel_rfl) (by kernel_rfl) (fun _ _ _ h => h) (Or.inr ⟨by rfl, rfl⟩) (by assumption) ?_
                    simp only [List.set_cons_zero, List.set_cons_succ]
                    refine take_at (i := 17) (n := 86) (v := undef) rfl rfl (by kernel_rfl) (by kernel_rfl) (by kernel_rfl) (fun _ _ _ h => h) (Or.inr ⟨by rfl, rfl⟩) (by assumption) ?_
                    simp only [List.set_cons_zero, List.set_cons_succ]
                    refine take_at (i := 18) (n := 87) (v := ?_) rfl rfl (by kernel_rfl) (by kernel_rfl) (by kernel_rfl) (fun _ _ _ h => h) (Or.inl ⟨by rfl, ?_⟩) (by assumption) ?_
                    rotate_left 1
                    · intro wz hSw
                      clear hSw
                      first | (go_simp; done) | (go_simp; with_reducible rfl)
                    simp only [List.set_cons_zero, List.set_cons_succ]
                    refine take_at (i := 19) (n := 9) (v := ?_) rfl rfl (by kernel_rfl) (by kernel_rfl) (by kernel_rfl) (fun _ _ _ h => h) (Or.inl ⟨by rfl, ?_⟩) (by assumption) ?_
                    rotate_left 1
                    · intro wz hSw
                      clear hSw
                      first | (go_simp; done) | (go_simp; with_reducible rfl)
                    simp only [List.set_cons_zero, List.set_cons_succ]
                    refine wpAnyH_done (by kernel_rfl) ?_ _
                    refine NoPanic.normal ?_
                    clear hHeld
                    go_wp2_with fail
                    exact ⟨⟨j + 1, vs.set j n, true, by omega, by omega, rfl, by simp, by simpa using hvl, ⟨(H5.out.grow (Below.refl _ _).drew).put j n, numsAt_bad hj1 hjl HBJ.out HNo _ _⟩⟩, by simp [intOf]; omega⟩
                  have HI := fun W ht => sh_strconv_Itoa n (by omega) (by omega) W ht
                  obtain ⟨tn, htn⟩ : ∃ tn : ByteArray, ⟨(Lib.itoa n).toArray⟩ = tn := ⟨_, rfl⟩
                  rw [htn] at HI
                  have HTN : Hid (Lib.itoa n = tn.data.toList) := by
                    have h9 : Lib.itoa n = tn.data.toList := by rw [← htn, back_list]
                    exact h9
                  clear htn
                  by_cases heq : tn = bj
                  · have heq2 := heq.symm
                    subst heq2
                    clear heq
                    have HYes := numD_ok HA.out ⟨by omega, by omega, HTN.out⟩
                    clear HA HTN
                    refine wp_region_noPanic ?_
                    refine wp_region_held_drew (S := fun w' => w'.cell? ⟨gw, j, none⟩ = some (.string bj)) (by kernel_rfl) (by go_simp) (fun hHeld => ?_)
                    refine take_at (i := 0) (n := 69) (v := ?_) rfl rfl (by kernel_rfl) (by kernel_rfl) (by kernel_rfl) (fun _ _ _ h => h) (Or.inl ⟨by rfl, ?_⟩) (by assumption) ?_
                    rotate_left 1
                    · intro wz hSw
                      have s0 := hSw
                      first | (go_simp; done) | (go_simp; with_reducible rfl)
                    simp only [List.set_cons_zero, List.set_cons_succ]
                    refine take_at (i := 1) (n := 70) (v := ?_) rfl rfl (by kernel_rfl) (by kernel_rfl) (by kernel_rfl) (fun _ _ _ h => h) (Or.inl ⟨by rfl, ?_⟩) (by assumption) ?_
                    rotate_left 1
                    · intro wz hSw
                      have s0 := hSw
                      first | (go_simp; done) | (go_simp; with_reducible rfl)
                    simp only [List.set_cons_zero, List.set_cons_succ]
                    refine take_at (i := 2) (n := 71) (v := ?_) rfl rfl (by kernel_rfl) (by kernel_rfl) (by kernel_rfl) (fun _ _ _ h => h) (Or.inl ⟨by rfl, ?_⟩) (by assumption) ?_
                    rotate_left 1
                    · intro wz hSw
                      have s0 := hSw
                      first | (go_simp; done) | (go_simp; with_reducible rfl)
                    simp only [List.set_cons_zero, List.set_cons_succ]
                    refine take_at (i := 3) (n := 72) (v := ?_) rfl rfl (by kernel_rfl) (by kernel_rfl) (by kernel_rfl) (fun _ _ _ h => h) (Or.inl ⟨by rfl, ?_⟩) (by assumption) ?_
                    rotate_left 1
                    · intro wz hSw
                      have s0 := hSw
                      first | (go_simp; done) | (go_simp; with_reducible rfl)
                    simp only [List.set_cons_zero, List.set_cons_succ]
                    refine take_at (i := 4) (n := 73) (v := ?_) rfl rfl (by kernel_rfl) (by kernel_rfl) (by kernel_rfl) (fun _ _ _ h => h) (Or.inl ⟨by rfl, ?_⟩) (by assumption) ?_
                    rotate_left 1
                    · intro wz hSw
                      have s0 := hSw
                      first | (go_simp; done) | (go_simp; with_reducible rfl)
                    simp only [List.set_cons_zero, List.set_cons_succ]
                    refine take_at (i := 5) (n := 74) (v := ?_) rfl rfl (by kernel_rfl) (by kernel_rfl) (by kernel_rfl) (fun _ _ _ h => h) (Or.inl ⟨by rfl, ?_⟩) (by assumption) ?_
                    rotate_left 1
                    · intro wz hSw
                      have s0 := hSw
                      first | (go_simp; done) | (go_simp; with_reducible rfl)
                    simp only [List.set_cons_zero, List.set_cons_succ]
                    refine take_at (i := 6) (n := 75) (v := ?_) rfl rfl (by kernel_rfl) (by kernel_rfl) (by kernel_rfl) (fun _ _ _ h => h) (Or.inl ⟨by rfl, ?_⟩) (by assumption) ?_
                    rotate_left 1
                    · intro wz hSw
                      have s0 := hSw
                      first | (go_simp; done) | (go_simp; with_reducible rfl)
                    simp only [List.set_cons_zero, List.set_cons_succ]
                    refine take_at (i := 7) (n := 76) (v := ?_) rfl rfl (by kernel_rfl) (by kernel_rfl) (by kernel_rfl) (fun _ _ _ h => h) (Or.inl ⟨by rfl, ?_⟩) (by assumption) ?_
                    rotate_left 1
                    · intro wz hSw
                      have s0 := hSw
                      first | (go_simp; done) | (go_simp; with_reducible rfl)
                    simp only [List.set_cons_zero, List.set_cons_succ]
                    refine take_at (i := 8) (n := 77) (v := ?_) rfl rfl (by kernel_rfl) (by kernel_rfl) (by kernel_rfl) (fun _ _ _ h => h) (Or.inl ⟨by rfl, ?_⟩) (by assumption) ?_
                    rotate_left 1
                    · intro wz hSw
                      have s0 := hSw
                      first | (go_simp; done) | (go_simp; with_reducible rfl)
                    simp only [List.set_cons_zero, List.set_cons_succ]
                    refine take_at (i := 9) (n := 78) (v := ?_) rfl rfl (by kernel_rfl) (by kernel_rfl) (by kernel_rfl) (fun _ _ _ h => h) (Or.inl ⟨by rfl, ?_⟩) (by assumption) ?_
                    rotate_left 1
                    · intro wz hSw
                      have s0 := hSw
                      first | (go_simp; done) | (go_simp; with_reducible rfl)
                    simp only [List.set_cons_zero, List.set_cons_succ]
                    refine take_at (i := 10) (n := 79) (v := ?_) rfl rfl (by kernel_rfl) (by kernel_rfl) (by kernel_rfl) (fun _ _ _ h => h) (Or.inl ⟨by rfl, ?_⟩) (by assumption) ?_
                    rotate_left 1
                    · intro wz hSw
                      have s0 := hSw
                      first | (go_simp; done) | (go_simp; with_reducible rfl)
                    simp only [List.set_cons_zero, List.set_cons_succ]
                    refine take_at (i := 11) (n := 80) (v := ?_) rfl rfl (by kernel_rfl) (by kernel_rfl) (by kernel_rfl) (fun _ _ _ h => h) (Or.inl ⟨by rfl, ?_⟩) (by assumption) ?_
                    rotate_left 1
                    · intro wz hSw
                      have s0 := hSw
                      first | (go_simp; done) | (go_simp; with_reducible rfl)
                    simp only [List.set_cons_zero, List.set_cons_succ]
                    refine take_at (i := 13) (n := 82) (v := ?_) rfl rfl (by kernel_rfl) (by kernel_rfl) (by kernel_rfl) (fun _ _ _ h => h) (Or.inl ⟨by rfl, ?_⟩) (by assumption) ?_
                    rotate_left 1
                    · intro wz hSw
                      have s0 := hSw
                      first | (go_simp; done) | (go_simp; with_reducible rfl)
                    simp only [List.set_cons_zero, List.set_cons_succ]
                    refine take_at (i := 14) (n := 83) (v := ?_) rfl rfl (by kernel_rfl) (by kernel_rfl) (by kernel_rfl) (fun _ _ _ h => h) (Or.inl ⟨by rfl, ?_⟩) (by assumption) ?_
                    rotate_left 1
                    · intro wz hSw
                      have s0 := hSw
                      first | (go_simp; done) | (go_simp; with_reducible rfl)
                    simp only [List.set_cons_zero, List.set_cons_succ]
                    refine take_at (i := 15) (n := 84) (v := ?_) rfl rfl (by kernel_rfl) (by kernel_rfl) (by kernel_rfl) (fun _ _ _ h => h) (Or.inl ⟨by rfl, ?_⟩) (by assumption) ?_
                    rotate_left 1
                    · intro wz hSw
                      have s0 := hSw
                      first | (go_simp; done) | (go_simp; with_reducible rfl)
                    simp only [List.set_cons_zero, List.set_cons_succ]
                    refine take_at (i := 16) (n := 85) (v := ?_) rfl rfl (by kernel_rfl) (by kernel_rfl) (by kernel_rfl) (fun _ _ _ h => h) (Or.inl ⟨by rfl, ?_⟩) (by assumption) ?_
                    rotate_left 1
                    · intro wz hSw
                      have s0 := hSw
                      first | (go_simp; done) | (go_simp; with_reducible rfl)
                    simp only [List.set_cons_zero, List.set_cons_succ]
                    refine wpAnyH_ready (rs := [12]) (by kernel_rfl) (by simp) ?_
                    refine AllReadyH.cons rfl (fun K hK => ?_) AllReadyH.nil
                    go_simp
                    go_wp2_with (go_at_call 56; refine (HI _ (tab_below HT5.out (Below.refl _ _).drew)).mono ?_; rintro r w6 ⟨rfl, kk, os, hw6⟩; have H6 : Hid (VW w3 w6 vs ∧ w6.cell? ⟨gw, j, none⟩ = some (.string bj)) := (by have hb6 : Below w5.heap.size w5 w6 := (by rw [hw6]; exact (below_seq (Below.refl _ _).drew (growB _ _ _))); exact ⟨H5.out.grow hb6, below_cell hb6 q5⟩); clear hw6 HI)
                    refine hK.out _ _ H6.out.2 (fun hHeld => ?_)
                    clear hK K
                    try simp only [List.set_cons_zero, List.set_cons_succ]
                    refine take_at (i := 17) (n := 86) (v := ?_) rfl rfl (by kernel_rfl) (by kernel_rfl) (by kernel_rfl) (fun _ _ _ h => h) (Or.inl ⟨by rfl, ?_⟩) (by assumption) ?_
                    rotate_left 1
                    · intro wz hSw
                      have s0 := hSw
                      first | (go_simp; done) | (go_simp; with_reducible rfl)
                    simp only [List.set_cons_zero, List.set_cons_succ]
                    refine take_at (i := 18) (n := 87) (v := ?_) rfl rfl (by kernel_rfl) (by kernel_rfl) (by kernel_rfl) (fun _ _ _ h => h) (Or.inl ⟨by rfl, ?_⟩) (by assumption) ?_
                    rotate_left 1
                    · intro wz hSw
                      have s0 := hSw
                      first | (go_simp; done) | (go_simp; with_reducible rfl)
                    simp only [List.set_cons_zero, List.set_cons_succ]
                    refine take_at (i := 19) (n := 9) (v := ?_) rfl rfl (by kernel_rfl) (by kernel_rfl) (by kernel_rfl) (fun _ _ _ h => h) (Or.inl ⟨by rfl, ?_⟩) (by assumption) ?_
                    rotate_left 1
                    · intro wz hSw
                      have s0 := hSw
                      first | (go_simp; done) | (go_simp; with_reducible rfl)
                    simp only [List.set_cons_zero, List.set_cons_succ]
                    refine wpAnyH_done (by kernel_rfl) ?_ _
                    refine NoPanic.normal ?_
                    clear hHeld
                    clear c5 f5 lv q5 l5
                    obtain ⟨⟨cn6, c6⟩, f6, lv6⟩ := H6.out.1.at (j := j) (by omega)
                    go_wp2_with fail
                    exact ⟨⟨j + 1, vs.set j n, false, by omega, by omega, by first | rfl | (rw [hneq]; rfl) | simp, by simp, by simpa using hvl, ⟨H6.out.1.put j n, numsAt_ok HJ.out.2 HBJ.out HYes (by omega)⟩⟩, by simp [intOf]; omega⟩
                  · have hneq : (tn.toList == bj.toList) = false := by
                      rw [ByteArray.toList_eq, ByteArray.toList_eq, beq_eq_false_iff_ne]
                      exact fun h1 => heq (ByteArray.ext (by rw [← Array.toList_inj]; exact h1))
                    have HNo := numD_big HA.out (fun h => heq (by
                      have h1 : tn.data.toList = bj.data.toList := HTN.out.symm.trans h.2.2
                      exact ByteArray.ext (by rw [← Array.toList_inj]; exact h1)))
                    clear HA HTN
                    refine wp_region_noPanic ?_
                    refine wp_region_held_drew (S := fun w' => w'.cell? ⟨gw, j, none⟩ = some (.string bj)) (by kernel_rfl) (by go_simp) (fun hHeld => ?_)
                    refine take_at (i := 0) (n := 69) (v := ?_) rfl rfl (by kernel_rfl) (by kernel_rfl) (by kernel_rfl) (fun _ _ _ h => h) (Or.inl ⟨by rfl, ?_⟩) (by assumption) ?_
                    rotate_left 1
                    · intro wz hSw
                      have s0 := hSw
                      first | (go_simp; done) | (go_simp; with_reducible rfl)
                    simp only [List.set_cons_zero, List.set_cons_succ]
                    refine take_at (i := 1) (n := 70) (v := ?_) rfl rfl (by kernel_rfl) (by kernel_rfl) (by kernel_rfl) (fun _ _ _ h => h) (Or.inl ⟨by rfl, ?_⟩) (by assumption) ?_
                    rotate_left 1
                    · intro wz hSw
                      have s0 := hSw
                      first | (go_simp; done) | (go_simp; with_reducible rfl)
                    simp only [List.set_cons_zero, List.set_cons_succ]
                    refine take_at (i := 2) (n := 71) (v := ?_) rfl rfl (by kernel_rfl) (by kernel_rfl) (by kernel_rfl) (fun _ _ _ h => h) (Or.inl ⟨by rfl, ?_⟩) (by assumption) ?_
                    rotate_left 1
                    · intro wz hSw
                      have s0 := hSw
                      first | (go_simp; done) | (go_simp; with_reducible rfl)
                    simp only [List.set_cons_zero, List.set_cons_succ]
                    refine take_at (i := 3) (n := 72) (v := ?_) rfl rfl (by kernel_rfl) (by kernel_rfl) (by kernel_rfl) (fun _ _ _ h => h) (Or.inl ⟨by rfl, ?_⟩) (by assumption) ?_
                    rotate_left 1
                    · intro wz hSw
                      have s0 := hSw
                      first | (go_simp; done) | (go_simp; with_reducible rfl)
                    simp only [List.set_cons_zero, List.set_cons_succ]
                    refine take_at (i := 4) (n := 73) (v := ?_) rfl rfl (by kernel_rfl) (by kernel_rfl) (by kernel_rfl) (fun _ _ _ h => h) (Or.inl ⟨by rfl, ?_⟩) (by assumption) ?_
                    rotate_left 1
                    · intro wz hSw
                      have s0 := hSw
                      first | (go_simp; done) | (go_simp; with_reducible rfl)
                    simp only [List.set_cons_zero, List.set_cons_succ]
                    refine take_at (i := 5) (n := 74) (v := ?_) rfl rfl (by kernel_rfl) (by kernel_rfl) (by kernel_rfl) (fun _ _ _ h => h) (Or.inl ⟨by rfl, ?_⟩) (by assumption) ?_
                    rotate_left 1
                    · intro wz hSw
                      have s0 := hSw
                      first | (go_simp; done) | (go_simp; with_reducible rfl)
                    simp only [List.set_cons_zero, List.set_cons_succ]
                    refine take_at (i := 6) (n := 75) (v := ?_) rfl rfl (by kernel_rfl) (by kernel_rfl) (by kernel_rfl) (fun _ _ _ h => h) (Or.inl ⟨by rfl, ?_⟩) (by assumption) ?_
                    rotate_left 1
                    · intro wz hSw
                      have s0 := hSw
                      first | (go_simp; done) | (go_simp; with_reducible rfl)
                    simp only [List.set_cons_zero, List.set_cons_succ]
                    refine take_at (i := 7) (n := 76) (v := ?_) rfl rfl (by kernel_rfl) (by kernel_rfl) (by kernel_rfl) (fun _ _ _ h => h) (Or.inl ⟨by rfl, ?_⟩) (by assumption) ?_
                    rotate_left 1
                    · intro wz hSw
                      have s0 := hSw
                      first | (go_simp; done) | (go_simp; with_reducible rfl)
                    simp only [List.set_cons_zero, List.set_cons_succ]
                    refine take_at (i := 8) (n := 77) (v := ?_) rfl rfl (by kernel_rfl) (by kernel_rfl) (by kernel_rfl) (fun _ _ _ h => h) (Or.inl ⟨by rfl, ?_⟩) (by assumption) ?_
                    rotate_left 1
                    · intro wz hSw
                      have s0 := hSw
                      first | (go_simp; done) | (go_simp; with_reducible rfl)
                    simp only [List.set_cons_zero, List.set_cons_succ]
                    refine take_at (i := 9) (n := 78) (v := ?_) rfl rfl (by kernel_rfl) (by kernel_rfl) (by kernel_rfl) (fun _ _ _ h => h) (Or.inl ⟨by rfl, ?_⟩) (by assumption) ?_
                    rotate_left 1
                    · intro wz hSw
                      have s0 := hSw
                      first | (go_simp; done) | (go_simp; with_reducible rfl)
                    simp only [List.set_cons_zero, List.set_cons_succ]
                    refine take_at (i := 10) (n := 79) (v := ?_) rfl rfl (by kernel_rfl) (by kernel_rfl) (by kernel_rfl) (fun _ _ _ h => h) (Or.inl ⟨by rfl, ?_⟩) (by assumption) ?_
                    rotate_left 1
                    · intro wz hSw
                      have s0 := hSw
                      first | (go_simp; done) | (go_simp; with_reducible rfl)
                    simp only [List.set_cons_zero, List.set_cons_succ]
                    refine take_at (i := 11) (n := 80) (v := ?_) rfl rfl (by kernel_rfl) (by kernel_rfl) (by kernel_rfl) (fun _ _ _ h => h) (Or.inl ⟨by rfl, ?_⟩) (by assumption) ?_
                    rotate_left 1
                    · intro wz hSw
                      have s0 := hSw
                      first | (go_simp; done) | (go_simp; with_reducible rfl)
                    simp only [List.set_cons_zero, List.set_cons_succ]
                    refine take_at (i := 13) (n := 82) (v := ?_) rfl rfl (by kernel_rfl) (by kernel_rfl) (by kernel_rfl) (fun _ _ _ h => h) (Or.inl ⟨by rfl, ?_⟩) (by assumption) ?_
                    rotate_left 1
                    · intro wz hSw
                      have s0 := hSw
                      first | (go_simp; done) | (go_simp; with_reducible rfl)
                    simp only [List.set_cons_zero, List.set_cons_succ]
                    refine take_at (i := 14) (n := 83) (v := ?_) rfl rfl (by kernel_rfl) (by kernel_rfl) (by kernel_rfl) (fun _ _ _ h => h) (Or.inl ⟨by rfl, ?_⟩) (by assumption) ?_
                    rotate_left 1
                    · intro wz hSw
                      have s0 := hSw
                      first | (go_simp; done) | (go_simp; with_reducible rfl)
                    simp only [List.set_cons_zero, List.set_cons_succ]
                    refine take_at (i := 15) (n := 84) (v := ?_) rfl rfl (by kernel_rfl) (by kernel_rfl) (by kernel_rfl) (fun _ _ _ h => h) (Or.inl ⟨by rfl, ?_⟩) (by assumption) ?_
                    rotate_left 1
                    · intro wz hSw
                      have s0 := hSw
                      first | (go_simp; done) | (go_simp; with_reducible rfl)
                    simp only [List.set_cons_zero, List.set_cons_succ]
                    refine take_at (i := 16) (n := 85) (v := ?_) rfl rfl (by kernel_rfl) (by kernel_rfl) (by kernel_rfl) (fun _ _ _ h => h) (Or.inl ⟨by rfl, ?_⟩) (by assumption) ?_
                    rotate_left 1
                    · intro wz hSw
                      have s0 := hSw
                      first | (go_simp; done) | (go_simp; with_reducible rfl)
                    simp only [List.set_cons_zero, List.set_cons_succ]
                    refine wpAnyH_ready (rs := [12]) (by kernel_rfl) (by simp) ?_
                    refine AllReadyH.cons rfl (fun K hK => ?_) AllReadyH.nil
                    go_simp
                    go_wp2_with (go_at_call 56; refine (HI _ (tab_below HT5.out (Below.refl _ _).drew)).mono ?_; rintro r w6 ⟨rfl, kk, os, hw6⟩; have H6 : Hid (VW w3 w6 vs ∧ w6.cell? ⟨gw, j, none⟩ = some (.string bj)) := (by have hb6 : Below w5.heap.size w5 w6 := (by rw [hw6]; exact (below_seq (Below.refl _ _).drew (growB _ _ _))); exact ⟨H5.out.grow hb6, below_cell hb6 q5⟩); clear hw6 HI)
                    refine hK.out _ _ H6.out.2 (fun hHeld => ?_)
                    clear hK K
                    try simp only [List.set_cons_zero, List.set_cons_succ]
                    refine take_at (i := 17) (n := 86) (v := ?_) rfl rfl (by kernel_rfl) (by kernel_rfl) (by kernel_rfl) (fun _ _ _ h => h) (Or.inl ⟨by rfl, ?_⟩) (by assumption) ?_
                    rotate_left 1
                    · intro wz hSw
                      have s0 := hSw
                      first | (go_simp; done) | (go_simp; with_reducible rfl)
                    simp only [List.set_cons_zero, List.set_cons_succ]
                    refine take_at (i := 18) (n := 87) (v := ?_) rfl rfl (by kernel_rfl) (by kernel_rfl) (by kernel_rfl) (fun _ _ _ h => h) (Or.inl ⟨by rfl, ?_⟩) (by assumption) ?_
                    rotate_left 1
                    · intro wz hSw
                      have s0 := hSw
                      first | (go_simp; done) | (go_simp; with_reducible rfl)
                    simp only [List.set_cons_zero, List.set_cons_succ]
                    refine take_at (i := 19) (n := 9) (v := ?_) rfl rfl (by kernel_rfl) (by kernel_rfl) (by kernel_rfl) (fun _ _ _ h => h) (Or.inl ⟨by rfl, ?_⟩) (by assumption) ?_
                    rotate_left 1
                    · intro wz hSw
                      have s0 := hSw
                      first | (go_simp; done) | (go_simp; with_reducible rfl)
                    simp only [List.set_cons_zero, List.set_cons_succ]
                    refine wpAnyH_done (by kernel_rfl) ?_ _
                    refine NoPanic.normal ?_
                    clear hHeld
                    clear c5 f5 lv q5 l5
                    obtain ⟨⟨cn6, c6⟩, f6, lv6⟩ := H6.out.1.at (j := j) (by omega)
                    go_wp2_with fail
                    exact ⟨⟨j + 1, vs.set j n, true, by omega, by omega, by first | rfl | (rw [hneq]; rfl) | simp, by simp, by simpa using hvl, ⟨H6.out.1.put j n, numsAt_bad hj1 hjl HBJ.out HNo _ _⟩⟩, by simp [intOf]; omega⟩
                · have HNo : numF bj.data.toList = none := by rw [← numD_eq]; exact hnd
                  clear hnd
                  refine wp_region_noPanic ?_
                  refine wp_region_held_drew (S := fun w' => True) (by kernel_rfl) trivial (fun hHeld => ?_)
                  refine take_at (i := 0) (n := 69) (v := ?_) rfl rfl (by kernel_rfl) (by kernel_rfl) (by kernel_rfl) (fun _ _ _ h => h) (Or.inl ⟨by rfl, ?_⟩) (by assumption) ?_
                  rotate_left 1
                  · intro wz hSw
                    clear hSw
                    first | (go_simp; done) | (go_simp; with_reducible rfl)
                  simp only [List.set_cons_zero, List.set_cons_succ]
                  refine take_at (i := 1) (n := 70) (v := ?_) rfl rfl (by kernel_rfl) (by kernel_rfl) (by kernel_rfl) (fun _ _ _ h => h) (Or.inl ⟨by rfl, ?_⟩) (by assumption) ?_
                  rotate_left 1
                  · intro wz hSw
                    clear hSw
                    first | (go_simp; done) | (go_simp; with_reducible rfl)
                  simp only [List.set_cons_zero, List.set_cons_succ]
                  refine take_at (i := 2) (n := 71) (v := ?_) rfl rfl (by kernel_rfl) (by kernel_rfl) (by kernel_rfl) (fun _ _ _ h => h) (Or.inl ⟨by rfl, ?_⟩) (by assumption) ?_
                  rotate_left 1
                  · intro wz hSw
                    clear hSw
                    first | (go_simp; done) | (go_simp; with_reducible rfl)
                  simp only [List.set_cons_zero, List.set_cons_succ]
                  refine take_at (i := 3) (n := 72) (v := undef) rfl rfl (by kernel_rfl) (by kernel_rfl) (by kernel_rfl) (fun _ _ _ h => h) (Or.inr ⟨by rfl, rfl⟩) (by assumption) ?_
                  simp only [List.set_cons_zero, List.set_cons_succ]
                  refine take_at (i := 4) (n := 73) (v := undef) rfl rfl (by kernel_rfl) (by kernel_rfl) (by kernel_rfl) (fun _ _ _ h => h) (Or.inr ⟨by rfl, rfl⟩) (by assumption) ?_
                  simp only [List.set_cons_zero, List.set_cons_succ]
                  refine take_at (i := 5) (n := 74) (v := ?_) rfl rfl (by kernel_rfl) (by kernel_rfl) (by kernel_rfl) (fun _ _ _ h => h) (Or.inl ⟨by rfl, ?_⟩) (by assumption) ?_
                  rotate_left 1
                  · intro wz hSw
                    clear hSw
                    first | (go_simp; done) | (go_simp; with_reducible rfl)
                  simp only [List.set_cons_zero, List.set_cons_succ]
                  refine take_at (i := 6) (n := 75) (v := ?_) rfl rfl (by kernel_rfl) (by kernel_rfl) (by kernel_rfl) (fun _ _ _ h => h) (Or.inl ⟨by rfl, ?_⟩) (by assumption) ?_
                  rotate_left 1
                  · intro wz hSw
                    clear hSw
                    first | (go_simp; done) | (go_simp; with_reducible rfl)
                  simp only [List.set_cons_zero, List.set_cons_succ]
                  refine take_at (i := 7) (n := 76) (v := undef) rfl rfl (by kernel_rfl) (by kernel_rfl) (by kernel_rfl) (fun _ _ _ h => h) (Or.inr ⟨by rfl, rfl⟩) (by assumption) ?_
                  simp only [List.set_cons_zero, List.set_cons_succ]
                  refine take_at (i := 8) (n := 77) (v := undef) rfl rfl (by kernel_rfl) (by kernel_rfl) (by kernel_rfl) (fun _ _ _ h => h) (Or.inr ⟨by rfl, rfl⟩) (by assumption) ?_
                  simp only [List.set_cons_zero, List.set_cons_succ]
                  refine take_at (i := 9) (n := 78) (v := ?_) rfl rfl (by kernel_rfl) (by kernel_rfl) (by kernel_rfl) (fun _ _ _ h => h) (Or.inl ⟨by rfl, ?_⟩) (by assumption) ?_
                  rotate_left 1
                  · intro wz hSw
                    clear hSw
                    first | (go_simp; done) | (go_simp; with_reducible rfl)
                  simp only [List.set_cons_zero, List.set_cons_succ]
                  refine take_at (i := 10) (n := 79) (v := ?_) rfl rfl (by kernel_rfl) (by kernel_rfl) (by kernel_rfl) (fun _ _ _ h => h) (Or.inl ⟨by rfl, ?_⟩) (by assumption) ?_
                  rotate_left 1
                  · intro wz hSw
                    clear hSw
                    first | (go_simp; done) | (go_simp; with_reducible rfl)
                  simp only [List.set_cons_zero, List.set_cons_succ]
                  refine take_at (i := 11) (n := 80) (v := undef) rfl rfl (by kernel_rfl) (by kernel_rfl) (by kernel_rfl) (fun _ _ _ h => h) (Or.inr ⟨by rfl, rfl⟩) (by assumption) ?_
                  simp only [List.set_cons_zero, List.set_cons_succ]
                  refine take_at (i := 12) (n := 81) (v := undef) rfl rfl (by kernel_rfl) (by kernel_rfl) (by kernel_rfl) (fun _ _ _ h => h) (Or.inr ⟨by rfl, rfl⟩) (by assumption) ?_
                  simp only [List.set_cons_zero, List.set_cons_succ]
                  refine take_at (i := 13) (n := 82) (v := undef) rfl rfl (by kernel_rfl) (by kernel_rfl) (by kernel_rfl) (fun _ _ _ h => h) (Or.inr ⟨by rfl, rfl⟩) (by assumption) ?_
                  simp only [List.set_cons_zero, List.set_cons_succ]
                  refine take_at (i := 14) (n := 83) (v := undef) rfl rfl (by kernel_rfl) (by kernel_rfl) (by kernel_rfl) (fun _ _ _ h => h) (Or.inr ⟨by rfl, rfl⟩) (by assumption) ?_
                  simp only [List.set_cons_zero, List.set_cons_succ]
                  refine take_at (i := 15) (n := 84) (v := undef) rfl rfl (by kernel_rfl) (by kernel_rfl) (by kernel_rfl) (fun _ _ _ h => h) (Or.inr ⟨by rfl, rfl⟩) (by assumption) ?_
                  simp only [List.set_cons_zero, List.set_cons_succ]
                  refine take_at (i := 16) (n := 85) (v := undef) rfl rfl (by kernel_rfl) (by kernel_rfl) (by kernel_rfl) (fun _ _ _ h => h) (Or.inr ⟨by rfl, rfl⟩) (by assumption) ?_
                  simp only [List.set_cons_zero, List.set_cons_succ]
                  refine take_at (i := 17) (n := 86) (v := undef) rfl rfl (by kernel_rfl) (by kernel_rfl) (by kernel_rfl) (fun _ _ _ h => h) (Or.inr ⟨by rfl, rfl⟩) (by assumption) ?_
                  simp only [List.set_cons_zero, List.set_cons_succ]
                  refine take_at (i := 18) (n := 87) (v := ?_) rfl rfl (by kernel_rfl) (by kernel_rfl) (by kernel_rfl) (fun _ _ _ h => h) (Or.inl ⟨by rfl, ?_⟩) (by assumption) ?_
                  rotate_left 1
                  · intro wz hSw
                    clear hSw
                    first | (go_simp; done) | (go_simp; with_reducible rfl)
                  simp only [List.set_cons_zero, List.set_cons_succ]
                  refine take_at (i := 19) (n := 9) (v := ?_) rfl rfl (by kernel_rfl) (by kernel_rfl) (by kernel_rfl) (fun _ _ _ h => h) (Or.inl ⟨by rfl, ?_⟩) (by assumption) ?_
                  rotate_left 1
                  · intro wz hSw
                    clear hSw
                    first | (go_simp; done) | (go_simp; with_reducible rfl)
                  simp only [List.set_cons_zero, List.set_cons_succ]
                  refine wpAnyH_done (by kernel_rfl) ?_ _
                  refine NoPanic.normal ?_
                  clear hHeld
                  go_wp2_with fail
                  exact ⟨⟨j + 1, vs.set j n, true, by omega, by omega, rfl, by simp, by simpa using hvl, ⟨(H5.out.grow (Below.refl _ _).drew).put j n, numsAt_bad hj1 hjl HBJ.out HNo _ _⟩⟩, by simp [intOf]; omega⟩
              · have hje : j = 7 := by omega
                subst hje
                obtain ⟨n0, n1, n2, n3, n4, n5, n6, rfl⟩ := seven_of hvl
                have HX : Hid (taskF p = some ⟨b0, n1, n2, n3, n4, n5, n6⟩) := by
                  have h9 : taskF p = some ⟨b0, n1, n2, n3, n4, n5, n6⟩ := by
                    have h3 := HJ.out.2
                    unfold NumsAt at h3
                    rw [if_neg (by simp)] at h3
                    have key : ∀ (i : Nat) (b : ByteArray) (n : Int), 1 ≤ i → i < 7 → [b0, b1, b2, b3, b4, b5, b6][i]? = some b → [n0, n1, n2, n3, n4, n5, n6][i]? = some n → numF b.data.toList = some n := fun i b n h1 h7 hb hn => by
                      obtain ⟨b', n', e1, e2, e3⟩ := h3 i h1 h7
                      rw [hb] at e1
                      rw [hn] at e3
                      cases e1
                      cases e3
                      exact e2
                    exact taskF_all HL.out.2.2.1 (key 1 _ _ (by omega) (by omega) rfl rfl) (key 2 _ _ (by omega) (by omega) rfl rfl) (key 3 _ _ (by omega) (by omega) rfl rfl) (key 4 _ _ (by omega) (by omega) rfl rfl) (key 5 _ _ (by omega) (by omega) rfl rfl) (key 6 _ _ (by omega) (by omega) rfl rfl)
                  exact h9
                have HD : Hid (RSW w wr.drew g4 LL acc (.slice sa acc.length sc) m ∧ wr.drew.heap[gw]? = some (.cells ([b0, b1, b2, b3, b4, b5, b6].map Value.string).toArray 9 (0, 0)) ∧ wr.drew.heap[w3.heap.size]? = some (.cells ([n0, n1, n2, n3, n4, n5, n6].map (Value.int .i64)).toArray 119 (0, 0))) := ⟨HRS.out.1.grow (Below.refl _ _).drew, HRS.out.2, HJ.out.1.2⟩
                have HKL : Hid (k + 1 < ps.length) := by
                  have h9 : k + 1 < ps.length := by
                    obtain ⟨-, -, -, -, ⟨-, -, h2⟩ | ⟨e, -⟩⟩ := HL.out.1
                    · rcases Nat.lt_or_ge (k + 1) ps.length with h | h
                      · exact h
                      · exact absurd (List.drop_eq_nil_of_le h) h2
                    · cases e
                  exact h9
                have HSc : Hid (scanF (ps.drop (k + 1)) (acc ++ [⟨b0, n1, n2, n3, n4, n5, n6⟩]) = scanF ps [] ∧ ∀ x ∈ acc ++ [⟨b0, n1, n2, n3, n4, n5, n6⟩], x.nm.size ≤ 9223372036854775807) := ⟨(scan_good (acc := acc) HL.out.1 HX.out).symm.trans HQ.out.1, fun x hx => by
                  rcases List.mem_append.1 hx with h | h
                  · exact HQ.out.2 x h
                  · rw [List.mem_singleton.1 h]
                    have := HL.out.2.2.2 b0 (by simp)
                    show b0.size ≤ _
                    omega⟩
                clear HL HQ HX HJ H3 hvl
                go_upto_region 21 with fail
                refine wp_region_noPanic ?_
                refine wp_region_held_drew (S := fun w' => w'.cell? ⟨gw, 0, none⟩ = some (.string b0) ∧ w'.cell? ⟨w3.heap.size, 1, none⟩ = some (.int .i64 n1) ∧ w'.cell? ⟨w3.heap.size, 2, none⟩ = some (.int .i64 n2) ∧ w'.cell? ⟨w3.heap.size, 3, none⟩ = some (.int .i64 n3) ∧ w'.cell? ⟨w3.heap.size, 4, none⟩ = some (.int .i64 n4) ∧ w'.cell? ⟨w3.heap.size, 5, none⟩ = some (.int .i64 n5) ∧ w'.cell? ⟨w3.heap.size, 6, none⟩ = some (.int .i64 n6)) (by kernel_rfl) (sev_of HD.out.2.1 HD.out.2.2) (fun hHeld => ?_)
                generalize hwz : wr.drew = wz at *
                clear hwz HRS
                refine take_at (i := 0) (n := 94) (v := ?_) rfl rfl (by kernel_rfl) (by kernel_rfl) (by kernel_rfl) (fun _ _ _ h => h) (Or.inl ⟨by rfl, ?_⟩) (by assumption) ?_
                rotate_left 1
                · intro wz hSw
                  obtain ⟨s0, s1, s2, s3, s4, s5, s6⟩ := hSw
                  first | (go_simp; done) | (go_simp; with_reducible rfl)
                simp only [List.set_cons_zero, List.set_cons_succ]
                refine take_at (i := 1) (n := 95) (v := ?_) rfl rfl (by kernel_rfl) (by kernel_rfl) (by kernel_rfl) (fun _ _ _ h => h) (Or.inl ⟨by rfl, ?_⟩) (by assumption) ?_
                rotate_left 1
                · intro wz hSw
                  obtain ⟨s0, s1, s2, s3, s4, s5, s6⟩ := hSw
                  first | (go_simp; done) | (go_simp; with_reducible rfl)
                simp only [List.set_cons_zero, List.set_cons_succ]
                refine take_at (i := 2) (n := 96) (v := ?_) rfl rfl (by kernel_rfl) (by kernel_rfl) (by kernel_rfl) (fun _ _ _ h => h) (Or.inl ⟨by rfl, ?_⟩) (by assumption) ?_
                rotate_left 1
                · intro wz hSw
                  obtain ⟨s0, s1, s2, s3, s4, s5, s6⟩ := hSw
                  first | (go_simp; done) | (go_simp; with_reducible rfl)
                simp only [List.set_cons_zero, List.set_cons_succ]
                refine take_at (i := 3) (n := 97) (v := ?_) rfl rfl (by kernel_rfl) (by kernel_rfl) (by kernel_rfl) (fun _ _ _ h => h) (Or.inl ⟨by rfl, ?_⟩) (by assumption) ?_
                rotate_left 1
                · intro wz hSw
                  obtain ⟨s0, s1, s2, s3, s4, s5, s6⟩ := hSw
                  first | (go_simp; done) | (go_simp; with_reducible rfl)
                simp only [List.set_cons_zero, List.set_cons_succ]
                refine take_at (i := 4) (n := 98) (v := ?_) rfl rfl (by kernel_rfl) (by kernel_rfl) (by kernel_rfl) (fun _ _ _ h => h) (Or.inl ⟨by rfl, ?_⟩) (by assumption) ?_
                rotate_left 1
                · intro wz hSw
                  obtain ⟨s0, s1, s2, s3, s4, s5, s6⟩ := hSw
                  first | (go_simp; done) | (go_simp; with_reducible rfl)
                simp only [List.set_cons_zero, List.set_cons_succ]
                refine take_at (i := 5) (n := 99) (v := ?_) rfl rfl (by kernel_rfl) (by kernel_rfl) (by kernel_rfl) (fun _ _ _ h => h) (Or.inl ⟨by rfl, ?_⟩) (by assumption) ?_
                rotate_left 1
                · intro wz hSw
                  obtain ⟨s0, s1, s2, s3, s4, s5, s6⟩ := hSw
                  first | (go_simp; done) | (go_simp; with_reducible rfl)
                simp only [List.set_cons_zero, List.set_cons_succ]
                refine take_at (i := 6) (n := 100) (v := ?_) rfl rfl (by kernel_rfl) (by kernel_rfl) (by kernel_rfl) (fun _ _ _ h => h) (Or.inl ⟨by rfl, ?_⟩) (by assumption) ?_
                rotate_left 1
                · intro wz hSw
                  obtain ⟨s0, s1, s2, s3, s4, s5, s6⟩ := hSw
                  first | (go_simp; done) | (go_simp; with_reducible rfl)
                simp only [List.set_cons_zero, List.set_cons_succ]
                refine take_at (i := 7) (n := 101) (v := ?_) rfl rfl (by kernel_rfl) (by kernel_rfl) (by kernel_rfl) (fun _ _ _ h => h) (Or.inl ⟨by rfl, ?_⟩) (by assumption) ?_
                rotate_left 1
                · intro wz hSw
                  obtain ⟨s0, s1, s2, s3, s4, s5, s6⟩ := hSw
                  first | (go_simp; done) | (go_simp; with_reducible rfl)
                simp only [List.set_cons_zero, List.set_cons_succ]
                refine take_at (i := 8) (n := 102) (v := ?_) rfl rfl (by kernel_rfl) (by kernel_rfl) (by kernel_rfl) (fun _ _ _ h => h) (Or.inl ⟨by rfl, ?_⟩) (by assumption) ?_
                rotate_left 1
                · intro wz hSw
                  obtain ⟨s0, s1, s2, s3, s4, s5, s6⟩ := hSw
                  first | (go_simp; done) | (go_simp; with_reducible rfl)
                simp only [List.set_cons_zero, List.set_cons_succ]
                refine take_at (i := 9) (n := 103) (v := ?_) rfl rfl (by kernel_rfl) (by kernel_rfl) (by kernel_rfl) (fun _ _ _ h => h) (Or.inl ⟨by rfl, ?_⟩) (by assumption) ?_
                rotate_left 1
                · intro wz hSw
                  obtain ⟨s0, s1, s2, s3, s4, s5, s6⟩ := hSw
                  first | (go_simp; done) | (go_simp; with_reducible rfl)
                simp only [List.set_cons_zero, List.set_cons_succ]
                refine take_at (i := 10) (n := 104) (v := ?_) rfl rfl (by kernel_rfl) (by kernel_rfl) (by kernel_rfl) (fun _ _ _ h => h) (Or.inl ⟨by rfl, ?_⟩) (by assumption) ?_
                rotate_left 1
                · intro wz hSw
                  obtain ⟨s0, s1, s2, s3, s4, s5, s6⟩ := hSw
                  first | (go_simp; done) | (go_simp; with_reducible rfl)
                simp only [List.set_cons_zero, List.set_cons_succ]
                refine take_at (i := 11) (n := 105) (v := ?_) rfl rfl (by kernel_rfl) (by kernel_rfl) (by kernel_rfl) (fun _ _ _ h => h) (Or.inl ⟨by rfl, ?_⟩) (by assumption) ?_
                rotate_left 1
                · intro wz hSw
                  obtain ⟨s0, s1, s2, s3, s4, s5, s6⟩ := hSw
                  first | (go_simp; done) | (go_simp; with_reducible rfl)
                simp only [List.set_cons_zero, List.set_cons_succ]
                refine take_at (i := 12) (n := 106) (v := ?_) rfl rfl (by kernel_rfl) (by kernel_rfl) (by kernel_rfl) (fun _ _ _ h => h) (Or.inl ⟨by rfl, ?_⟩) (by assumption) ?_
                rotate_left 1
                · intro wz hSw
                  obtain ⟨s0, s1, s2, s3, s4, s5, s6⟩ := hSw
                  first | (go_simp; done) | (go_simp; with_reducible rfl)
                simp only [List.set_cons_zero, List.set_cons_succ]
                refine take_at (i := 13) (n := 107) (v := ?_) rfl rfl (by kernel_rfl) (by kernel_rfl) (by kernel_rfl) (fun _ _ _ h => h) (Or.inl ⟨by rfl, ?_⟩) (by assumption) ?_
                rotate_left 1
                · intro wz hSw
                  obtain ⟨s0, s1, s2, s3, s4, s5, s6⟩ := hSw
                  first | (go_simp; done) | (go_simp; with_reducible rfl)
                simp only [List.set_cons_zero, List.set_cons_succ]
                refine take_at (i := 14) (n := 108) (v := ?_) rfl rfl (by kernel_rfl) (by kernel_rfl) (by kernel_rfl) (fun _ _ _ h => h) (Or.inl ⟨by rfl, ?_⟩) (by assumption) ?_
                rotate_left 1
                · intro wz hSw
                  obtain ⟨s0, s1, s2, s3, s4, s5, s6⟩ := hSw
                  first | (go_simp; done) | (go_simp; with_reducible rfl)
                simp only [List.set_cons_zero, List.set_cons_succ]
                refine take_at (i := 15) (n := 109) (v := ?_) rfl rfl (by kernel_rfl) (by kernel_rfl) (by kernel_rfl) (fun _ _ _ h => h) (Or.inl ⟨by rfl, ?_⟩) (by assumption) ?_
                rotate_left 1
                · intro wz hSw
                  obtain ⟨s0, s1, s2, s3, s4, s5, s6⟩ := hSw
                  first | (go_simp; done) | (go_simp; with_reducible rfl)
                simp only [List.set_cons_zero, List.set_cons_succ]
                refine take_at (i := 16) (n := 110) (v := ?_) rfl rfl (by kernel_rfl) (by kernel_rfl) (by kernel_rfl) (fun _ _ _ h => h) (Or.inl ⟨by rfl, ?_⟩) (by assumption) ?_
                rotate_left 1
                · intro wz hSw
                  obtain ⟨s0, s1, s2, s3, s4, s5, s6⟩ := hSw
                  first | (go_simp; done) | (go_simp; with_reducible rfl)
                simp only [List.set_cons_zero, List.set_cons_succ]
                refine wpAnyH_ready (rs := [17]) (by kernel_rfl) (by simp) ?_
                refine AllReadyH.cons rfl (fun K hK => ?_) AllReadyH.nil
                go_simp
                have hd2 : Below wz.heap.size wz (wz.alloc (.cells #[.string b0, .int .i64 n1, .int .i64 n2, .int .i64 n3, .int .i64 n4, .int .i64 n5, .int .i64 n6] 55)) := below_new _ _
                refine hK.out _ _ (sev_of ((hd2.block _ (Array.getElem?_eq_some_iff.1 HD.out.2.1).1).trans HD.out.2.1) ((hd2.block _ (Array.getElem?_eq_some_iff.1 HD.out.2.2).1).trans HD.out.2.2)) (fun hHeld => ?_)
                clear hd2
                clear hK K
                try simp only [List.set_cons_zero, List.set_cons_succ]
                obtain ⟨ad, cc, w9, hrun, h9, hkeep⟩ := HD.out.1.tw.push2 ⟨b0, n1, n2, n3, n4, n5, n6⟩ (by rw [HAL.out]; omega)
                have H9 : Hid (RSW w w9 g4 LL (acc ++ [⟨b0, n1, n2, n3, n4, n5, n6⟩]) (.slice ad (acc.length + 1) cc) m) := ⟨h9, hkeep _ _ _ HD.out.1.ll (by decide), below_cell h9.fb.bel HG.out.1, HG.out.2.1.below h9.fb.bel, HG.out.2.2.1.below h9.fb.bel, tab_below HG.out.2.2.2 h9.fb.bel⟩
                have hk1 := hkeep _ _ _ HD.out.2.1 (by decide)
                have hk2 := hkeep _ _ _ HD.out.2.2 (by decide)
                clear h9 hkeep
                refine wpAnyH_ready (rs := [18]) (by kernel_rfl) (by simp) ?_
                refine AllReadyH.cons rfl (fun K hK => ?_) AllReadyH.nil
                refine region_append rfl (.tmp 94) (.tmp 111) 48 rfl rfl rfl hrun ?_
                refine hK.out _ _ (sev_of hk1 hk2) (fun hHeld => ?_)
                clear hK K hrun hk1 hk2
                simp only [Act.put, List.setIfInBounds_toArray]
                refine take_at (i := 19) (n := 5) (v := ?_) rfl rfl (by kernel_rfl) (by kernel_rfl) (by kernel_rfl) (fun _ _ _ h => h) (Or.inl ⟨by rfl, ?_⟩) (by assumption) ?_
                rotate_left 1
                · intro wz hSw
                  obtain ⟨s0, s1, s2, s3, s4, s5, s6⟩ := hSw
                  first | (go_simp; done) | (go_simp; with_reducible rfl)
                simp only [List.set_cons_zero, List.set_cons_succ]
                refine wpAnyH_done (by kernel_rfl) ?_ _
                refine NoPanic.normal ?_
                clear hHeld
                go_wp2_with fail
                exact ⟨⟨k + 1, acc ++ [⟨b0, n1, n2, n3, n4, n5, n6⟩], HKL.out, by omega, by simp, by rw [List.length_append, HAL.out]; rfl, H9.out, HSc⟩, by simp [intOf]; omega⟩
end Go.Proofs.YtccoobcggbbciadDoor
