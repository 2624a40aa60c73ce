import Derived.Test.YtccoobcggbbciamXE
import Derived.Test.YtccoobcggbbciamNC
import Derived.Test.YtccoobcggbbciamNI
namespace Go.Proofs.Ytccoobcggbbciam
open Go.ChangeShapes Go.WideShapes Go.ChangeAt Go.RowKit

/-- So many are laid, and room. -/
def runCells (n : Nat) (runs : List Int) : List Value := runs.map (Value.int .i64) ++ List.replicate (n - runs.length) (.int .i64 0)

theorem runCells_len {n : Nat} {runs : List Int} (h : runs.length ≤ n) : (runCells n runs).length = n := by simp [runCells]; omega

theorem runCells_snoc {n : Nat} {runs : List Int} {v : Int} (h : runs.length < n) : (runCells n runs).set runs.length (.int .i64 v) = runCells n (runs ++ [v]) := by
  unfold runCells
  rw [List.set_append_right _ _ (by simp)]
  obtain ⟨m, hm⟩ : ∃ m, n - runs.length = m + 1 := ⟨n - runs.length - 1, by omega⟩
  rw [hm, List.replicate_succ]
  simp [show n - (runs.length + 1) = m by omega]

theorem runCells_full {runs : List Int} : runCells runs.length runs = runs.map (Value.int .i64) := by simp [runCells]

theorem setCell_list {w : World} {g i : Nat} {cs : List Value} {t : TypeId} {fr : Nat × Nat} {u : Value} (h : w.heap[g]? = some (.cells cs.toArray t fr)) : (w.setCell ⟨g, i, none⟩ u).heap[g]? = some (.cells (cs.set i u).toArray t fr) := by
  rw [setCell_at h, List.setIfInBounds_toArray]

theorem set_grown (W : World) (g i : Nat) (u : Value) : W.grownBy (W.setCell ⟨g, i, none⟩ u) (some g) := by
  refine ⟨rfl, rfl, rfl, ?_, fun q hq hne => Below.heap_setCell _ _ _ _ (fun e => hne (by rw [show q = g from e]))⟩
  simp

theorem info3N : (Try.prog.info? 3).map (fun i => (i.zero, i.size, i.bytes)) = some (some (.int .i64 0), 1, 8) := by kernel_rfl

theorem made_rep (n : Nat) : madeCells (Value.int .i64 0).cells (n * 1) = (List.replicate n (Value.int .i64 0)).toArray := by
  apply Array.ext
  · simp [madeCells]
  · intro i h1 h2
    simp [madeCells, Value.cells, Nat.mod_one]

theorem make_ints (W : World) (n : Nat) (hn : n ≤ 1000000) : ∃ W', (Instr.makeSlice 24 (.int .i64 (n : Int)) (.int .i64 (n : Int))).run Try.prog W = .ok (.slice (some ⟨W.heap.size, 0, none⟩) n n) W' ∧ Below W.heap.size W W' ∧ W'.heap[W.heap.size]? = some (.cells (runCells n []).toArray 3 (0, 0)) := by
  obtain ⟨i0, hi0, hz0, hz1, hz2⟩ := info_parts info3N
  have h := run_make (P := Try.prog) W 24 3 i0 _ Try.underlying24 hi0 hz0 .i64 .i64 (n : Int) (n : Int) (by omega) (by omega) (by rw [hz2]; omega) (by omega)
  rw [Int.toNat_natCast, hz1, made_rep] at h
  exact ⟨_, h, below_new _ _, heap_alloc_new _ _⟩
end Go.Proofs.Ytccoobcggbbciam
namespace Go.Proofs.Ytccoobcggbbciam
open Go.ChangeShapes Go.WideShapes Go.ChangeAt Go.RowKit

/-- What Times tells. -/
def TmA (l : List Fr) (ts : List Int) (e : Int × Int) : Prop := ((chkN l).1 ≠ 0 ∧ ts = [] ∧ e = chkN l) ∨ ((chkN l).1 = 0 ∧ Told l ts e)

theorem TmA.one {l : List Fr} {ts us : List Int} {e f : Int × Int} (h : TmA l ts e) (h' : TmA l us f) : ts = us ∧ e = f := by
  rcases h with ⟨h1, rfl, rfl⟩ | ⟨h1, h2⟩
  · rcases h' with ⟨g1, rfl, rfl⟩ | ⟨g1, g2⟩
    · exact ⟨rfl, rfl⟩
    · exact absurd g1 h1
  · rcases h' with ⟨g1, rfl, rfl⟩ | ⟨g1, g2⟩
    · exact absurd h1 g1
    · exact h2.one g2

theorem Times_ends {w : World} {g : Nat} {c k v : Value} {a : Act} (h : w.heap[g]? = some (.cells #[c, k] 29 (0, 0))) (h2 : a.tmps[2]?.getD undef = v) (h3 : a.tmps[3]?.getD undef = .pointer (some ⟨g, 0, none⟩)) :
    (results Try.f26 a.tmps).run Try.prog w = .ok (.tuple #[v, .agg #[c, k]]) w := by
  obtain ⟨c1, f1, l1⟩ := cells_of (l := [_, _]) h
  have c10 := c1 0 _ rfl
  have c11 := c1 1 _ rfl
  simp [results, Try.results26, go_sem, h2, h3, c10, c11]

theorem flat_nuN (xs : List Int) : xs.flatMap nuV = xs.map (Value.int .i64) := by
  induction xs with
  | nil => rfl
  | cons x r ih => rw [List.flatMap_cons, ih]; rfl

theorem row_ints {W : World} {G : Nat} {ts : List Int} (h : W.heap[G]? = some (.cells (ts.map (Value.int .i64)).toArray 3 (0, 0))) : RowSl nuV W ts (.slice (some ⟨G, 0, none⟩) ts.length ts.length) := by
  refine ⟨some ⟨G, 0, none⟩, ts.length, rfl, (fun h => by cases h), Nat.le_refl _, Or.inr ⟨G, 0, rfl, fun q u hq => ?_⟩⟩
  rw [Nat.zero_add]
  rw [flat_nuN] at hq
  exact (cells_of h).1 q u hq

/-- The fault's block, and the row of times. -/
structure TW (w W : World) (n g : Nat) (ts : List Int) : Prop where
  fb : FB w W w.heap.size
  row : W.heap[g]? = some (.cells (runCells n ts).toArray 3 (0, 0))
  low : w.heap.size < g

theorem TW.grow {w W W' : World} {n g : Nat} {ts : List Int} (h : TW w W n g ts) (hb : Below W.heap.size W W') : TW w W' n g ts :=
  ⟨h.fb.grow hb, (hb.block _ (ltH h.row)).trans h.row, h.low⟩

theorem TW.put {w W : World} {n g : Nat} {ts : List Int} (h : TW w W n g ts) {v : Int} (hn : ts.length < n) : TW w (W.setCell ⟨g, ts.length, none⟩ (.int .i64 v)) n g (ts ++ [v]) := by
  have hl := h.low
  refine ⟨⟨h.fb.bel.setCell (show w.heap.size ≤ g by omega) _, ?_, h.fb.low⟩, ?_, h.low⟩
  · rw [Below.heap_setCell _ _ _ _ (show w.heap.size ≠ g by omega)]; exact h.fb.res
  · rw [setCell_list h.row, runCells_snoc hn]

def TimesPost (w : World) (l : List Fr) (r : Ending) (w' : World) : Prop := ∃ ts e tv, TmA l ts e ∧ r = .returned (.tuple #[tv, .agg #[.int .i64 e.1, .int .i64 e.2]]) ∧ RowSl nuV w' ts tv ∧ Below w.heap.size w w' ∧ NewSl w.heap.size tv

set_option maxRecDepth 20000 in
set_option maxHeartbeats 2000000 in
theorem Times_any (w : World) (l : List Fr) (v : Value) (hv : RowSl Fr.vals w l v) : Calls Try.prog 26 #[v] w (TimesPost w l) := by
  have HC := CheckN_any (w.alloc (.cells #[.int .i64 0, .int .i64 0] 29)) l v (hv.below (below_new _ _))
  by_cases h0 : (chkN l).1 = 0
  rotate_left 1
  · obtain ⟨z1, z2, hz⟩ : ∃ z1 z2, chkN l = (z1, z2) := ⟨_, _, rfl⟩
    have HZ : Hid (chkN l = (z1, z2) ∧ (chkN l).1 ≠ 0) := ⟨hz, h0⟩
    rw [hz] at HC h0
    dsimp only at HC h0
    have hz1 : (z1 != 0) = true := by simpa using h0
    obtain ⟨ad, c, rfl⟩ := hv.len
    clear hv hz h0
    go_enter Try.func26, Try.ntmps26
    go_upto_region 3 with (go_at_call 41; refine HC.mono ?_; rintro r w1 ⟨rfl, hb1⟩; have H1 : Hid (FB w (w1.alloc (.cells #[.int .i64 z1, .int .i64 z2] 29)) w.heap.size) := ((FB.start w).grow hb1).grow (below_new _ _); have hl1 : w.heap.size < w1.heap.size := ((FB.start w).grow hb1).lt; clear hb1 HC)
    obtain ⟨fs, -, fl⟩ := cells_of (l := [_, _]) (heap_alloc_new w1 (.cells #[.int .i64 z1, .int .i64 z2] 29))
    have g0 := fs 0 _ rfl
    have g1 := fs 1 _ rfl
    clear fs
    generalize w1.alloc (.cells #[.int .i64 z1, .int .i64 z2] 29) = w2 at *
    obtain ⟨qs, qf, ql⟩ := cells_of (l := [_, _]) H1.out.res
    have q0 := qs 0 _ rfl
    have q1 := qs 1 _ rfl
    have qf0 := qf 0
    have qf1 := qf 1
    clear qs qf
    go_region
    all_goals go_wp2_with fail
    all_goals
      refine bodyPost_ret (Times_ends (g := w.heap.size) (c := .int .i64 z1) (k := .int .i64 z2) (v := .slice none 0 0) (set_two H1.out.res) rfl rfl) rfl ?_
      exact ⟨[], (z1, z2), _, .inl ⟨HZ.out.2, rfl, HZ.out.1.symm⟩, rfl, RowSl.nil _ _, (H1.out.set _ _).drew, NewSl.none _ _ _⟩
  · obtain ⟨hl1, hl8, hok, hce⟩ := chkN_ok h0
    rw [hce] at HC
    dsimp only at HC
    have hv' := hv
    obtain ⟨ad, c, rfl, -, hcap, hrw⟩ := hv'
    rcases hrw with hnil | ⟨ab, ao, rfl, hrow⟩
    · rw [hnil] at hl1; simp at hl1
    have HV : Hid (RowSl Fr.vals w l (.slice (some ⟨ab, ao, none⟩) l.length c) ∧ (∀ x ∈ l, okFr x) ∧ (∀ q u, (l.flatMap Fr.vals)[q]? = some u → w.cell? ⟨ab, ao + q, none⟩ = some u) ∧ (chkN l).1 = 0) := ⟨hv, hok, hrow, h0⟩
    clear hv hok hrow h0 hce
    go_enter Try.func26, Try.ntmps26
    go_upto_region 2 with (go_at_call 41; refine HC.mono ?_; rintro r w1 ⟨rfl, hb1⟩; have H1 : Hid (FB w (w1.alloc (.cells #[.int .i64 0, .int .i64 0] 29)) w.heap.size) := ((FB.start w).grow hb1).grow (below_new _ _); clear hb1 HC)
    obtain ⟨fs, -, fl⟩ := cells_of (l := [_, _]) (heap_alloc_new w1 (.cells #[.int .i64 0, .int .i64 0] 29))
    have g0 := fs 0 _ rfl
    clear fs
    generalize w1.alloc (.cells #[.int .i64 0, .int .i64 0] 29) = w2 at *
    obtain ⟨w3, hmk, hb3, hh3⟩ := make_ints w2 l.length (by omega)
    have H3 : Hid (TW w w3 l.length w2.heap.size []) := ⟨H1.out.grow hb3, hh3, by have := H1.out.lt; omega⟩
    generalize w2.heap.size = G at *
    clear H1 hb3 hh3
    go_wp2_with fail
    go_loopw [21] (fun i4 wr => ∃ ts : List Int, ts.length ≤ l.length ∧ i4 = .int .i64 (ts.length : Nat) ∧ TW w wr l.length G ts ∧ TmsTo l ts) (fun i4 _ => l.length - (intOf i4).toNat)
    case atStart => exact ⟨[], Nat.zero_le _, rfl, H3.out, TmsTo.start l⟩
    case round =>
      obtain ⟨ts, hts, rfl, htw, htm⟩ := hrel
      have HT : Hid (TW w wr l.length G ts ∧ TmsTo l ts) := ⟨htw, htm⟩
      by_cases hjl : ts.length < l.length
      · obtain ⟨m, hm, -⟩ := drop_at hjl
        obtain ⟨y0, y1, y2, y3⟩ := fr_at (fun q u hq => below_cell htw.fb.bel (HV.out.2.2.1 q u hq)) hm
        have HWc := worstN_any (wr.alloc (.cells #[.int .i64 m.c, .int .i64 m.t, .int .i64 m.d, .int .i64 m.j] 64)) l ab ao c ts.length m hl8 hcap HV.out.2.1 hm ((HV.out.1.below htw.fb.bel).below (below_new _ _))
        have HMM : Hid (l[ts.length]? = some m) := hm
        clear htw htm hm
        generalize hj : ts.length = j at *
        have HJ : Hid (ts.length = j) := hj
        clear hj
        obtain ⟨mc, mt, md, mj⟩ := m
        dsimp only at y0 y1 y2 y3 HWc
        have hji : (j : Int) < (l.length : Int) := by omega
        have HB : Hid (TW w (wr.alloc (.cells #[.int .i64 mc, .int .i64 mt, .int .i64 md, .int .i64 mj] 64)) l.length G ts) := HT.out.1.grow (below_new _ _)
        have hnb := heap_alloc_new wr (.cells #[.int .i64 mc, .int .i64 mt, .int .i64 md, .int .i64 mj] 64)
        go_upto_region 9 with (go_at_call 42; refine HWc.mono ?_; rintro r w5 ⟨x, hx, rfl, hb5⟩; have HX : Hid (Wst (l.take j) ⟨mc, mt, md, mj⟩ (l.drop (j + 1)) x) := hx; have H5 : Hid (TW w w5 l.length G ts) := HB.out.grow hb5; have d5 : w5.cell? ⟨wr.heap.size, 2, none⟩ = some (.int .i64 md) := below_cell hb5 ((cells_of (l := [_, _, _, _]) hnb).1 2 _ rfl); clear hb5 HWc hnb hx HB)
        obtain ⟨qs, qf, ql⟩ := cells_of (l := [_, _]) H5.out.fb.res
        have q0 := qs 0 _ rfl
        have q1 := qs 1 _ rfl
        have qf0 := qf 0
        have qf1 := qf 1
        clear qs qf
        cases x with
        | none =>
          simp only [Option.getD, Option.isSome]
          go_wp2_with fail
          refine bodyPost_ret (Times_ends (g := w.heap.size) (c := .int .i64 13) (k := .int .i64 (j : Int)) (v := .slice none 0 0) (set_two H5.out.fb.res) rfl rfl) rfl ?_
          refine ⟨[], (13, (j : Int)), _, .inr ⟨HV.out.2.2.2, .inr ⟨rfl, ts, HT.out.2, ⟨⟨mc, mt, md, mj⟩, none, ?_, ?_, fun v h => by cases h⟩, by rw [HJ.out]⟩⟩, rfl, RowSl.nil _ _, H5.out.fb.set _ _, NewSl.none _ _ _⟩
          · rw [HJ.out]; exact HMM.out
          · rw [HJ.out]; exact HX.out
        | some v =>
          simp only [Option.getD, Option.isSome]
          by_cases hvd : md < v
          · go_wp2_with fail
            refine bodyPost_ret (Times_ends (g := w.heap.size) (c := .int .i64 13) (k := .int .i64 (j : Int)) (v := .slice none 0 0) (set_two H5.out.fb.res) rfl rfl) rfl ?_
            refine ⟨[], (13, (j : Int)), _, .inr ⟨HV.out.2.2.2, .inr ⟨rfl, ts, HT.out.2, ⟨⟨mc, mt, md, mj⟩, some v, ?_, ?_, fun v' h => by cases h; exact hvd⟩, by rw [HJ.out]⟩⟩, rfl, RowSl.nil _ _, H5.out.fb.set _ _, NewSl.none _ _ _⟩
            · rw [HJ.out]; exact HMM.out
            · rw [HJ.out]; exact HX.out
          · have hlj : j < (runCells l.length ts).length := by rw [runCells_len (by rw [HJ.out]; exact hts)]; exact hjl
            obtain ⟨rc, rf, rl⟩ := cells_of (l := runCells l.length ts) H5.out.row
            have r0 := rc j _ (List.getElem?_eq_getElem hlj)
            have rf0 := rf j
            generalize (runCells l.length ts)[j] = rold at r0
            clear rc rf
            go_wp2_with fail
            have hp := H5.out.put (v := v) (by rw [HJ.out]; exact hjl)
            rw [HJ.out] at hp
            refine ⟨⟨ts ++ [v], by simp; have := HJ.out; omega, by have := HJ.out; simp; omega, hp, HT.out.2.snoc (m := ⟨mc, mt, md, mj⟩) (by rw [HJ.out]; exact HMM.out) (by rw [HJ.out]; exact HX.out) (by show v ≤ md; omega)⟩, by have := HJ.out; simp [intOf]; omega⟩
      · have hje : ts.length = l.length := by omega
        obtain ⟨qs, qf, ql⟩ := cells_of (l := [_, _]) htw.fb.res
        have q0 := qs 0 _ rfl
        have q1 := qs 1 _ rfl
        have qf0 := qf 0
        have qf1 := qf 1
        have HJ : Hid (ts.length = l.length) := hje
        clear qs qf htw htm
        have hji : ¬ ((ts.length : Nat) : Int) < (l.length : Int) := by omega
        clear hje
        go_wp2_with fail
        refine bodyPost_ret (Times_ends (g := w.heap.size) (c := .int .i64 0) (k := .int .i64 0) (v := .slice (some ⟨G, 0, none⟩) l.length l.length) (set_two HT.out.1.fb.res) rfl rfl) rfl ?_
        refine ⟨ts, (0, 0), _, .inr ⟨HV.out.2.2.2, .inl ⟨HT.out.2, HJ.out, rfl⟩⟩, rfl, ?_, HT.out.1.fb.set _ _, fun a n c e => by cases e; have := HT.out.1.low; show w.heap.size ≤ G; omega⟩
        have hrow2 : (((wr.setCell ⟨w.heap.size, 0, none⟩ (.int .i64 0)).setCell ⟨w.heap.size, 1, none⟩ (.int .i64 0))).heap[G]? = some (.cells (ts.map (Value.int .i64)).toArray 3 (0, 0)) := by
          have hlo := HT.out.1.low
          rw [Below.heap_setCell _ _ _ _ (show G ≠ w.heap.size by omega), Below.heap_setCell _ _ _ _ (show G ≠ w.heap.size by omega), HT.out.1.row, ← HJ.out, runCells_full]
        have hr := row_ints hrow2
        rw [HJ.out] at hr
        exact hr
end Go.Proofs.Ytccoobcggbbciam
