import Derived.Test.YtccoobcggbbciamHF0
namespace Go.Proofs.Ytccoobcggbbciam
open Go.ChangeShapes Go.WideShapes Go.ChangeAt Go.RowKit

theorem region_append {P : Program} {ops : Array Oper} {o : Oper} {a : Act} {w : World} {K : Act → World → Prop} {Q : Exit → Act → World → Prop} {E : Prop} [Decidable (Region.wanted o (yielded ops a.tmps) = true)] (hgd : o.guard = none) (s x : Operand) (t : TypeId)
    (ho : o.op = .call { callee := .builtin .append, args := #[s, x], argTypes := #[t, t] }) {v u v' : Value} {w' : World} (hs : a.eval s = v) (hx : a.eval x = u)
    (hrun : (Builtin.append_ #[t, t] o.type #[v, u]).run P w = .ok v' w') (h : K (a.put o.dst v') w') : if Region.wanted o (yielded ops a.tmps) = true then Oper.wp P o a w K Q else E := by
  have hw : Region.wanted o (yielded ops a.tmps) = true := by simp [Region.wanted, hgd]
  rw [if_pos hw]
  unfold Oper.wp
  simp [execOp, ho, resolve, invoke, builtin, hs, hx, hrun, Result.andThen]
  exact h

theorem region_append2 {P : Program} {ops : Array Oper} {o : Oper} {a : Act} {w : World} {K : Act → World → Prop} {Q : Exit → Act → World → Prop} {E : Prop} [Decidable (Region.wanted o (yielded ops a.tmps) = true)] (hgd : o.guard = none) (s x : Operand) (t : TypeId) (d : Nat)
    (ho : o.op = .call { callee := .builtin .append, args := #[s, x], argTypes := #[t, t] }) {v u v' : Value} {w' : World} (hs : a.eval s = v) (hx : a.eval x = u)
    (hrun : (Builtin.append_ #[t, t] o.type #[v, u]).run P w = .ok v' w') (hd : o.dst = some d) (h : K (a.put (some d) v') w') : if Region.wanted o (yielded ops a.tmps) = true then Oper.wp P o a w K Q else E :=
  region_append hgd s x t ho hs hx hrun (by rw [hd]; exact h)

theorem own_rowSl {α : Type} {f : α → List Value} {W : World} {B size : Nat} {E : TypeId} {v : Value} {l : List α} (h : W.ownsRow B E size v l.length (l.flatMap f)) : RowSl f W l v := by
  have h0 := h
  obtain ⟨hl, ⟨rfl, hn⟩ | ⟨g, cap, cur, rfl, hb, hg, hc, hm, hs, htk⟩⟩ := h0
  · rw [List.eq_nil_of_length_eq_zero hn]
    exact RowSl.nil _ _
  · refine ⟨_, cap, rfl, (fun h => by cases h), hc, .inr ⟨g, 0, rfl, fun q u hq => ?_⟩⟩
    have h9 := h.cells (g := g) rfl q u hq
    rwa [Addr.add_lit] at h9

theorem Told.len {l : List Fr} {ts : List Int} {e : Int × Int} (h : Told l ts e) (h0 : e.1 = 0) : ts.length = l.length := by
  rcases h with ⟨-, h, -⟩ | ⟨-, us, -, -, h⟩
  · exact h
  · rw [h] at h0; simp at h0

theorem lateness_ends {w : World} {p q : Value} {a : Act} (h2 : a.tmps[4]?.getD undef = p) (h3 : a.tmps[5]?.getD undef = q) :
    (results Try.f14 a.tmps).run Try.prog w = .ok (.tuple #[p, q]) w := by
  simp [results, Try.results14, go_sem, h2, h3]

/-- What the second loop holds. -/
structure L2 (w W : World) (G tg b5 o5 n : Nat) (late : List Int) (fs : List (Nat × Fr)) (ts : List Int) : Prop where
  bel : Below w.heap.size w W
  row : W.heap[G]? = some (.cells (late.map (Value.int .i64)).toArray 3 (0, 0))
  tl : ∀ q u, (fs.map (fun y => Value.int .i64 (y.1 : Int)))[q]? = some u → W.cell? ⟨tg, q, none⟩ = some u
  tm : ∀ q u, (ts.flatMap nuV)[q]? = some u → W.cell? ⟨b5, o5 + q, none⟩ = some u
  len : late.length = n

theorem L2.put {w W : World} {G tg b5 o5 n : Nat} {late : List Int} {fs : List (Nat × Fr)} {ts : List Int} (h : L2 w W G tg b5 o5 n late fs ts) (hw : w.heap.size ≤ G) (h1 : G < tg) (h2 : G < b5) (i : Nat) (v : Int) : L2 w (W.setCell ⟨G, i, none⟩ (.int .i64 v)) G tg b5 o5 n (late.set i v) fs ts := by
  refine ⟨h.bel.setCell hw _, ?_, fun q u hq => ?_, fun q u hq => ?_, by rw [List.length_set]; exact h.len⟩
  · rw [setCell_list h.row, List.map_set]
  · rw [World.cell?_setCell_far _ _ _ _ (show G ≠ tg by omega)]
    exact h.tl q u hq
  · rw [World.cell?_setCell_far _ _ _ _ (show G ≠ b5 by omega)]
    exact h.tm q u hq

def LatPost (w : World) (l : List Pa) (tk : List Int) (r : Ending) (w' : World) : Prop := ∃ res, LatR l tk res ∧ Below w.heap.size w w' ∧ ((res = none ∧ r = .returned (.tuple #[.slice none 0 0, .bool false])) ∨ ∃ late u, res = some late ∧ r = .returned (.tuple #[u, .bool true]) ∧ RowSl nuV w' late u ∧ NewSl w.heap.size u ∧ late.length = l.length)

set_option maxRecDepth 20000 in
set_option maxHeartbeats 16000000 in
theorem lateness_any (w : World) (l : List Pa) (tk : List Int) (v v2 : Value) (hv : RowSl Pa.vals w l v) (ht : RowSl nuV w tk v2) (h1 : 1 ≤ l.length) (h8 : l.length ≤ 8) (hlen : tk.length = l.length) (hfr : ∀ (i : Nat) (x : Pa), l[i]? = some x → x.fr = -1 ∨ (0 ≤ x.fr ∧ x.fr < (i : Int))) : Calls Try.prog 14 #[v, v2] w (LatPost w l tk) := by
  obtain ⟨ad, c, rfl, -, hcap, hrow⟩ := hv
  rcases hrow with h | ⟨b, o, rfl, hrow⟩
  · rw [h] at h1; simp at h1
  obtain ⟨ad2, c2, rfl, -, hcap2, hrow2⟩ := ht
  rcases hrow2 with h | ⟨b2, o2, rfl, hrow2⟩
  · rw [h] at hlen; simp at hlen; omega
  rw [hlen] at hcap2 ⊢
  have HV : Hid ((∀ q u, (l.flatMap Pa.vals)[q]? = some u → w.cell? ⟨b, o + q, none⟩ = some u) ∧ (∀ q u, (tk.flatMap nuV)[q]? = some u → w.cell? ⟨b2, o2 + q, none⟩ = some u) ∧ tk.length = l.length ∧ ∀ (i : Nat) (x : Pa), l[i]? = some x → x.fr = -1 ∨ (0 ≤ x.fr ∧ x.fr < (i : Int))) := ⟨hrow, hrow2, hlen, hfr⟩
  clear hrow hrow2 hlen hfr
  obtain ⟨w3, hmk, hb3, hh3⟩ := make_ints w l.length (by omega)
  have H3 : Hid (LS w w3 w.heap.size l.length [] [] (.slice none 0 0) (.slice none 0 0)) := ⟨hb3, hh3, ⟨rfl, .inl ⟨rfl, rfl⟩⟩, ⟨rfl, .inl ⟨rfl, rfl⟩⟩, Nat.le_refl _⟩
  obtain ⟨G, hG⟩ : ∃ G, w.heap.size = G := ⟨_, rfl⟩
  rw [hG] at hmk H3
  clear hb3 hh3
  go_enter Try.func14, Try.ntmps14
  go_wp2_with fail
  clear hmk hG
  go_loopw [7, 8, 20] (fun av bv iv wr => ∃ (j : Nat) (fv tv : Value), j ≤ l.length ∧ fv = av ∧ tv = bv ∧ iv = .int .i64 (j : Int) ∧ Hid (LS w wr G l.length (lat0 (l.take j) tk) (frsP (l.take j) tk) fv tv)) (fun _ _ iv _ => l.length - (intOf iv).toNat)
  case atStart => exact ⟨0, _, _, Nat.zero_le _, rfl, rfl, rfl, H3.out⟩
  case round =>
    obtain ⟨j, fv, tv, hj, rfl, rfl, rfl, HS⟩ := hrel
    clear H3
    by_cases hjl : j < l.length
    · obtain ⟨x, hx, -⟩ := drop_at hjl
      obtain ⟨y0, y1, y2, y3, y4, y5, y6⟩ := pa7_at (fun q u hq => below_cell HS.out.bel (HV.out.1 q u hq)) hx
      have lb : b < wr.heap.size := World.block_lt_of_cell? _ _ y0
      have hji : (j : Int) < (l.length : Int) := by omega
      have hfr := HV.out.2.2.2 j x hx
      have HBg := begins_any (wr.alloc (.cells x.vals.toArray 35)) x
      have HX : Hid (l[j]? = some x) := hx
      clear hx
      obtain ⟨co, fr, se, cx, t, d, p⟩ := x
      unfold Pa.val Pa.vals at HBg
      dsimp only at y0 y1 y2 y3 y4 y5 y6 HBg hfr
      by_cases hb : fr = -1
      · subst hb
        have HB : Hid (LS w (wr.alloc (.cells #[.int .i64 co, .int .i64 (-1), .int .i64 se, .int .i64 cx, .int .i64 t, .int .i64 d, .int .i64 p] 35)) G l.length (lat0 (l.take j) tk) (frsP (l.take j) tk) fv tv) := HS.out.grow (below_new _ _)
        clear HS hfr
        go_wp2_with (go_at_call 25; refine HBg.mono ?_; rintro r w5 ⟨rfl, hb5⟩; have H5 : Hid (LS w w5 G l.length (lat0 (l.take j) tk) (frsP (l.take j) tk) fv tv) := HB.out.grow hb5; clear hb5 HBg HB)
        refine ⟨⟨j + 1, _, _, by omega, rfl, rfl, by simp, ?_⟩, by simp [intOf]; omega⟩
        have h9 := H5.out.skip (by rw [lat0_len, List.length_take]; omega)
        show LS _ _ _ _ _ _ _ _
        rw [lat0_snoc HX.out, frsP_snoc HX.out]
        simpa using h9
      · obtain ⟨fn, hfn⟩ : ∃ fn : Nat, fr = (fn : Int) := ⟨fr.toNat, by omega⟩
        subst hfn
        have hbb : ((fn : Int) == -1) = false := by simp
        have hfl : fn < tk.length := by have := HV.out.2.2.1; omega
        have hfi : (fn : Int) < (l.length : Int) := by omega
        obtain ⟨tv0, htv⟩ : ∃ tv0, tk[fn]? = some tv0 := ⟨tk[fn], List.getElem?_eq_getElem _⟩
        have ct := nu_at (fun q u hq => below_cell HS.out.bel (HV.out.2.1 q u hq)) htv
        have ltj : (lat0 (l.take j) tk).length = j := by rw [lat0_len, List.length_take]; omega
        have htd : tk.getD (fn : Int).toNat 0 = tv0 := by rw [Int.toNat_natCast, List.getD_eq_getElem?_getD, htv]; rfl
        have HB : Hid (LS w (wr.alloc (.cells #[.int .i64 co, .int .i64 (fn : Int), .int .i64 se, .int .i64 cx, .int .i64 t, .int .i64 d, .int .i64 p] 35)) G l.length (lat0 (l.take j) tk) (frsP (l.take j) tk) fv tv) := HS.out.grow (below_new _ _)
        have hgG : G < wr.heap.size := HS.out.lt
        have hnb := heap_alloc_new wr (.cells #[.int .i64 co, .int .i64 (fn : Int), .int .i64 se, .int .i64 cx, .int .i64 t, .int .i64 d, .int .i64 p] 35)
        clear HS hfr
        go_upto_region 9 with (go_at_call 25; refine HBg.mono ?_; rintro r w5 ⟨rfl, hb5⟩; rw [hbb]; have H5 : Hid (LS w w5 G l.length (lat0 (l.take j) tk) (frsP (l.take j) tk) fv tv) := HB.out.grow hb5; have hn5 := (hb5.block _ (Array.getElem?_eq_some_iff.1 hnb).1).trans hnb; have ct5 := below_cell hb5 (below_cell (below_new wr (.cells #[.int .i64 co, .int .i64 (fn : Int), .int .i64 se, .int .i64 cx, .int .i64 t, .int .i64 d, .int .i64 p] 35)) ct); have x1 := (cells_of (l := [_, _, _, _, _, _, _]) hn5).1 1 _ rfl; obtain ⟨rc, rf, rl⟩ := cells_of (l := runCells l.length (lat0 (l.take j) tk)) H5.out.row; have r0 := rc j _ (List.getElem?_eq_getElem (by rw [runCells_len (by omega)]; exact hjl)); have rf0 := rf j; generalize (runCells l.length (lat0 (l.take j) tk))[j]'_ = rold at r0; clear rc rf hb5 HBg HB hnb ct y0 y1 y2 y3 y4 y5 y6)
        have h6 := H5.out.put (v := tv0) (by omega)
        rw [ltj] at h6
        have HG6 : Hid (LG w (w5.setCell ⟨G, j, none⟩ (.int .i64 tv0)) G l.length (lat0 (l.take j) tk ++ [tv0]) (frsP (l.take j) tk).length (((frsP (l.take j) tk).map (·.2)).flatMap Fr.vals) fv (frsP (l.take j) tk).length ((frsP (l.take j) tk).map (fun y => Value.int .i64 (y.1 : Int))) tv) := h6.lg
        have HEz : Hid (se = 0 → LS w (w5.setCell ⟨G, j, none⟩ (.int .i64 tv0)) G l.length (lat0 (l.take (j + 1)) tk) (frsP (l.take (j + 1)) tk) fv tv) := fun hs => by
          rw [lat0_snoc HX.out, frsP_snoc HX.out]
          simp only [htd, hs]
          simpa [show ¬ ((fn : Int) = -1) by omega] using h6
        have HEnd : Hid (∀ W fv tv, se ≠ 0 → LG w W G l.length (lat0 (l.take j) tk ++ [tv0]) ((frsP (l.take j) tk).length + 1) (((frsP (l.take j) tk).map (·.2)).flatMap Fr.vals ++ [.int .i64 se, .int .i64 t, .int .i64 d, .int .i64 tv0]) fv ((frsP (l.take j) tk).length + 1) ((frsP (l.take j) tk).map (fun y => Value.int .i64 (y.1 : Int)) ++ [.int .i64 (j : Int)]) tv → LS w W G l.length (lat0 (l.take (j + 1)) tk) (frsP (l.take (j + 1)) tk) fv tv) := fun W fv tv hs h => by
          have h9 := LG.ls (y := (j, ⟨se, t, d, tv0⟩)) h
          rw [lat0_snoc HX.out, frsP_snoc HX.out]
          simp only [htd]
          rw [if_neg (by show ¬ ((fn : Int) = -1); omega), if_pos ⟨by show ¬ ((fn : Int) = -1); omega, hs⟩]
          exact h9
        have HRC : Hid ((runCells l.length (lat0 (l.take j) tk ++ [tv0]))[j]? = some (.int .i64 tv0)) := by
          show _ = _
          unfold runCells
          rw [List.getElem?_append_left (by simp; omega), List.getElem?_map, List.getElem?_append_right (by omega), ltj]
          simp
        have HP6 : Hid (PtAt (w5.setCell ⟨G, j, none⟩ (.int .i64 tv0)) wr.heap.size G j ⟨co, (fn : Int), se, cx, t, d, p⟩ tv0) := ⟨by rw [Below.heap_setCell _ _ _ _ (show wr.heap.size ≠ G by omega)]; exact hn5, (cells_of h6.row).1 j _ HRC.out⟩
        have hnf : (frsP (l.take j) tk).length ≤ 8 := Nat.le_trans (frFrom_len _ _ _) (by rw [List.length_take]; omega)
        clear h6 H5 ct5 x1 r0 rf0 rl hn5
        generalize w5.setCell ⟨G, j, none⟩ (.int .i64 tv0) = w6 at *
        generalize wr.heap.size = gt at *
        generalize (frsP (l.take j) tk).length = nf at *
        generalize ((frsP (l.take j) tk).map (·.2)).flatMap Fr.vals = fx at *
        generalize (frsP (l.take j) tk).map (fun y => Value.int .i64 (y.1 : Int)) = tx at *
        obtain ⟨s2, s4, s5, sl⟩ := HP6.out.cells
        dsimp only at s2 s4 s5 sl
        have lg := World.block_lt_of_cell? _ _ s2
        have lG := World.block_lt_of_cell? _ _ sl
        by_cases hs : se = 0
        · subst hs
          go_wp2_with fail
          exact ⟨⟨j + 1, _, _, by omega, rfl, rfl, by simp, HEz.out rfl⟩, by simp [intOf]; omega⟩
        · have hsb : (se != 0) = true := by simpa using hs
          go_upto_region 10 with fail
          obtain ⟨af, cf, rfl⟩ := owns_value HG6.out.fr
          obtain ⟨at0, ct0, rfl⟩ := owns_value HG6.out.tl
          obtain ⟨LA, hLA⟩ : ∃ LA, lat0 (l.take j) tk ++ [tv0] = LA := ⟨_, rfl⟩
          rw [hLA] at HG6 HEnd HRC
          have HEnd : Hid (∀ W fv tv, LG w W G l.length LA (nf + 1) (fx ++ [.int .i64 se, .int .i64 t, .int .i64 d, .int .i64 tv0]) fv (nf + 1) (tx ++ [.int .i64 (j : Int)]) tv → LS w W G l.length (lat0 (l.take (j + 1)) tk) (frsP (l.take (j + 1)) tk) fv tv) := fun W fv tv h => HEnd.out W fv tv hs h
          clear hLA
          refine wp_region_noPanic ?_
          refine wp_region_held_drew (S := fun w' => w'.cell? ⟨gt, 2, none⟩ = some (.int .i64 se) ∧ w'.cell? ⟨gt, 4, none⟩ = some (.int .i64 t) ∧ w'.cell? ⟨gt, 5, none⟩ = some (.int .i64 d) ∧ w'.cell? ⟨G, j, none⟩ = some (.int .i64 tv0)) (by kernel_rfl) ⟨by go_simp, by go_simp, by go_simp, by go_simp⟩ (fun hHeld => ?_)
          refine take_at (i := 0) (n := 38) (v := ?_) rfl rfl (by kernel_rfl) (by kernel_rfl) (by kernel_rfl) (fun _ _ _ h => h) (Or.inl ⟨by rfl, ?_⟩) (by assumption) ?_
          rotate_left 1
          · intro wz hSw
            obtain ⟨s2, s4, s5, sl⟩ := hSw
            first | (go_simp; done) | (go_simp; with_reducible rfl)
          simp only [List.set_cons_zero, List.set_cons_succ]
          refine take_at (i := 1) (n := 39) (v := ?_) rfl rfl (by kernel_rfl) (by kernel_rfl) (by kernel_rfl) (fun _ _ _ h => h) (Or.inl ⟨by rfl, ?_⟩) (by assumption) ?_
          rotate_left 1
          · intro wz hSw
            obtain ⟨s2, s4, s5, sl⟩ := hSw
            first | (go_simp; done) | (go_simp; with_reducible rfl)
          simp only [List.set_cons_zero, List.set_cons_succ]
          refine take_at (i := 2) (n := 40) (v := ?_) rfl rfl (by kernel_rfl) (by kernel_rfl) (by kernel_rfl) (fun _ _ _ h => h) (Or.inl ⟨by rfl, ?_⟩) (by assumption) ?_
          rotate_left 1
          · intro wz hSw
            obtain ⟨s2, s4, s5, sl⟩ := hSw
            first | (go_simp; done) | (go_simp; with_reducible rfl)
          simp only [List.set_cons_zero, List.set_cons_succ]
          refine take_at (i := 3) (n := 41) (v := ?_) rfl rfl (by kernel_rfl) (by kernel_rfl) (by kernel_rfl) (fun _ _ _ h => h) (Or.inl ⟨by rfl, ?_⟩) (by assumption) ?_
          rotate_left 1
          · intro wz hSw
            obtain ⟨s2, s4, s5, sl⟩ := hSw
            first | (go_simp; done) | (go_simp; with_reducible rfl)
          simp only [List.set_cons_zero, List.set_cons_succ]
          refine take_at (i := 4) (n := 42) (v := ?_) rfl rfl (by kernel_rfl) (by kernel_rfl) (by kernel_rfl) (fun _ _ _ h => h) (Or.inl ⟨by rfl, ?_⟩) (by assumption) ?_
          rotate_left 1
          · intro wz hSw
            obtain ⟨s2, s4, s5, sl⟩ := hSw
            first | (go_simp; done) | (go_simp; with_reducible rfl)
          simp only [List.set_cons_zero, List.set_cons_succ]
          refine take_at (i := 5) (n := 43) (v := ?_) rfl rfl (by kernel_rfl) (by kernel_rfl) (by kernel_rfl) (fun _ _ _ h => h) (Or.inl ⟨by rfl, ?_⟩) (by assumption) ?_
          rotate_left 1
          · intro wz hSw
            obtain ⟨s2, s4, s5, sl⟩ := hSw
            first | (go_simp; done) | (go_simp; with_reducible rfl)
          simp only [List.set_cons_zero, List.set_cons_succ]
          refine take_at (i := 6) (n := 44) (v := ?_) rfl rfl (by kernel_rfl) (by kernel_rfl) (by kernel_rfl) (fun _ _ _ h => h) (Or.inl ⟨by rfl, ?_⟩) (by assumption) ?_
          rotate_left 1
          · intro wz hSw
            obtain ⟨s2, s4, s5, sl⟩ := hSw
            first | (go_simp; done) | (go_simp; with_reducible rfl)
          simp only [List.set_cons_zero, List.set_cons_succ]
          refine take_at (i := 7) (n := 45) (v := ?_) rfl rfl (by kernel_rfl) (by kernel_rfl) (by kernel_rfl) (fun _ _ _ h => h) (Or.inl ⟨by rfl, ?_⟩) (by assumption) ?_
          rotate_left 1
          · intro wz hSw
            obtain ⟨s2, s4, s5, sl⟩ := hSw
            first | (go_simp; done) | (go_simp; with_reducible rfl)
          simp only [List.set_cons_zero, List.set_cons_succ]
          refine take_at (i := 8) (n := 46) (v := ?_) rfl rfl (by kernel_rfl) (by kernel_rfl) (by kernel_rfl) (fun _ _ _ h => h) (Or.inl ⟨by rfl, ?_⟩) (by assumption) ?_
          rotate_left 1
          · intro wz hSw
            obtain ⟨s2, s4, s5, sl⟩ := hSw
            first | (go_simp; done) | (go_simp; with_reducible rfl)
          simp only [List.set_cons_zero, List.set_cons_succ]
          refine take_at (i := 9) (n := 47) (v := ?_) rfl rfl (by kernel_rfl) (by kernel_rfl) (by kernel_rfl) (fun _ _ _ h => h) (Or.inl ⟨by rfl, ?_⟩) (by assumption) ?_
          rotate_left 1
          · intro wz hSw
            obtain ⟨s2, s4, s5, sl⟩ := hSw
            first | (go_simp; done) | (go_simp; with_reducible rfl)
          simp only [List.set_cons_zero, List.set_cons_succ]
          refine take_at (i := 10) (n := 48) (v := ?_) rfl rfl (by kernel_rfl) (by kernel_rfl) (by kernel_rfl) (fun _ _ _ h => h) (Or.inl ⟨by rfl, ?_⟩) (by assumption) ?_
          rotate_left 1
          · intro wz hSw
            obtain ⟨s2, s4, s5, sl⟩ := hSw
            first | (go_simp; done) | (go_simp; with_reducible rfl)
          simp only [List.set_cons_zero, List.set_cons_succ]
          refine take_at (i := 11) (n := 49) (v := ?_) rfl rfl (by kernel_rfl) (by kernel_rfl) (by kernel_rfl) (fun _ _ _ h => h) (Or.inl ⟨by rfl, ?_⟩) (by assumption) ?_
          rotate_left 1
          · intro wz hSw
            obtain ⟨s2, s4, s5, sl⟩ := hSw
            first | (go_simp; done) | (go_simp; with_reducible rfl)
          simp only [List.set_cons_zero, List.set_cons_succ]
          refine take_at (i := 14) (n := 52) (v := ?_) rfl rfl (by kernel_rfl) (by kernel_rfl) (by kernel_rfl) (fun _ _ _ h => h) (Or.inl ⟨by rfl, ?_⟩) (by assumption) ?_
          rotate_left 1
          · intro wz hSw
            obtain ⟨s2, s4, s5, sl⟩ := hSw
            first | (go_simp; done) | (go_simp; with_reducible rfl)
          simp only [List.set_cons_zero, List.set_cons_succ]
          refine take_at (i := 15) (n := 53) (v := ?_) rfl rfl (by kernel_rfl) (by kernel_rfl) (by kernel_rfl) (fun _ _ _ h => h) (Or.inl ⟨by rfl, ?_⟩) (by assumption) ?_
          rotate_left 1
          · intro wz hSw
            obtain ⟨s2, s4, s5, sl⟩ := hSw
            first | (go_simp; done) | (go_simp; with_reducible rfl)
          simp only [List.set_cons_zero, List.set_cons_succ]
          refine wpAnyH_ready (rs := [12, 16]) (by kernel_rfl) (by simp) ?_
          refine AllReadyH.cons rfl (fun K hK => ?_) (AllReadyH.cons rfl (fun K hK => ?_) AllReadyH.nil)
          · go_simp
            have G1 : Hid (LG w (w6.alloc (.cells #[.int .i64 se, .int .i64 t, .int .i64 d, .int .i64 tv0] 64)).drew G l.length LA nf fx (.slice af nf cf) nf tx (.slice at0 nf ct0)) := HG6.out.grow (below_new _ _).drew
            have P1 : Hid (PtAt (w6.alloc (.cells #[.int .i64 se, .int .i64 t, .int .i64 d, .int .i64 tv0] 64)).drew gt G j ⟨co, (fn : Int), se, cx, t, d, p⟩ tv0) := HP6.out.grow (below_new _ _).drew
            have f1 : (w6.alloc (.cells #[.int .i64 se, .int .i64 t, .int .i64 d, .int .i64 tv0] 64)).drew.heap[w6.heap.size]? = some (.cells #[.int .i64 se, .int .i64 t, .int .i64 d, .int .i64 tv0] 64 (0, 0)) := heap_alloc_new _ _
            generalize (w6.alloc (.cells #[.int .i64 se, .int .i64 t, .int .i64 d, .int .i64 tv0] 64)).drew = v1 at G1 P1 f1 ⊢
            refine hK.out _ _ (PtAt.cells (x := ⟨co, (fn : Int), se, cx, t, d, p⟩) P1.out) (fun hHeld => ?_)
            clear hK K
            try simp only [List.set_cons_zero, List.set_cons_succ]
            refine wpAnyH_ready (rs := [13, 16]) (by kernel_rfl) (by simp) ?_
            refine AllReadyH.cons rfl (fun K hK => ?_) (AllReadyH.cons rfl (fun K hK => ?_) AllReadyH.nil)
            · obtain ⟨ad2, c2, v2, hrun, h9, k9⟩ := G1.out.pushF ⟨se, t, d, tv0⟩ f1 (by omega)
              have G2 : Hid (LG w v2 G l.length LA (nf + 1) (fx ++ [.int .i64 se, .int .i64 t, .int .i64 d, .int .i64 tv0]) (.slice ad2 (nf + 1) c2) nf tx (.slice at0 nf ct0)) := h9
              have P2 : Hid (PtAt v2 gt G j ⟨co, (fn : Int), se, cx, t, d, p⟩ tv0) := ⟨k9 _ _ _ P1.out.1 (by decide), (cells_of h9.row).1 j _ HRC.out⟩
              clear k9 h9
              refine region_append2 rfl (.tmp 38) (.tmp 50) 61 51 rfl rfl rfl hrun rfl ?_
              refine hK.out _ _ (PtAt.cells (x := ⟨co, (fn : Int), se, cx, t, d, p⟩) P2.out) (fun hHeld => ?_)
              clear hrun
              clear hK K
              try simp only [List.set_cons_zero, List.set_cons_succ]
              simp only [Act.put, List.setIfInBounds_toArray]
              try simp only [List.set_cons_zero, List.set_cons_succ]
              refine wpAnyH_ready (rs := [16]) (by kernel_rfl) (by simp) ?_
              refine AllReadyH.cons rfl (fun K hK => ?_) AllReadyH.nil
              go_simp
              have G3 : Hid (LG w (v2.alloc (.cells #[.int .i64 (j : Int)] 3)) G l.length LA (nf + 1) (fx ++ [.int .i64 se, .int .i64 t, .int .i64 d, .int .i64 tv0]) (.slice ad2 (nf + 1) c2) nf tx (.slice at0 nf ct0)) := G2.out.grow (below_new _ _)
              have P3 : Hid (PtAt (v2.alloc (.cells #[.int .i64 (j : Int)] 3)) gt G j ⟨co, (fn : Int), se, cx, t, d, p⟩ tv0) := P2.out.grow (below_new _ _)
              have f3 : (v2.alloc (.cells #[.int .i64 (j : Int)] 3)).heap[v2.heap.size]? = some (.cells #[.int .i64 (j : Int)] 3 (0, 0)) := heap_alloc_new _ _
              generalize (v2.alloc (.cells #[.int .i64 (j : Int)] 3)) = v3 at G3 P3 f3 ⊢
              refine hK.out _ _ (PtAt.cells (x := ⟨co, (fn : Int), se, cx, t, d, p⟩) P3.out) (fun hHeld => ?_)
              clear hK K
              try simp only [List.set_cons_zero, List.set_cons_succ]
              refine wpAnyH_ready (rs := [17]) (by kernel_rfl) (by simp) ?_
              refine AllReadyH.cons rfl (fun K hK => ?_) AllReadyH.nil
              obtain ⟨ad4, c4, v4, hrun, h9, k9⟩ := G3.out.pushT (j : Int) f3 (by omega)
              have G4 : Hid (LG w v4 G l.length LA _ _ _ (nf + 1) _ (.slice ad4 (nf + 1) c4)) := h9
              refine region_append2 rfl (.tmp 52) (.tmp 54) 24 55 rfl rfl rfl hrun rfl ?_
              refine hK.out _ _ (PtAt.cells (x := ⟨co, (fn : Int), se, cx, t, d, p⟩) ⟨k9 _ _ _ P3.out.1 (by decide), (cells_of h9.row).1 j _ HRC.out⟩) (fun hHeld => ?_)
              clear hrun k9 h9
              clear hK K
              try simp only [List.set_cons_zero, List.set_cons_succ]
              simp only [Act.put, List.setIfInBounds_toArray]
              try simp only [List.set_cons_zero, List.set_cons_succ]
              refine take_at (i := 18) (n := 7) (v := ?_) rfl rfl (by kernel_rfl) (by kernel_rfl) (by kernel_rfl) (fun _ _ _ h => h) (Or.inl ⟨by rfl, ?_⟩) (by assumption) ?_
              rotate_left 1
              · intro wz hSw
                obtain ⟨s2, s4, s5, sl⟩ := hSw
                first | (go_simp; done) | (go_simp; with_reducible rfl)
              simp only [List.set_cons_zero, List.set_cons_succ]
              refine take_at (i := 19) (n := 8) (v := ?_) rfl rfl (by kernel_rfl) (by kernel_rfl) (by kernel_rfl) (fun _ _ _ h => h) (Or.inl ⟨by rfl, ?_⟩) (by assumption) ?_
              rotate_left 1
              · intro wz hSw
                obtain ⟨s2, s4, s5, sl⟩ := hSw
                first | (go_simp; done) | (go_simp; with_reducible rfl)
              simp only [List.set_cons_zero, List.set_cons_succ]
              refine wpAnyH_done (by kernel_rfl) ?_ _
              refine NoPanic.normal ?_
              clear hHeld
              go_wp2_with fail
              exact ⟨⟨j + 1, _, _, by omega, rfl, rfl, by simp, HEnd.out _ _ _ G4.out⟩, by simp [intOf]; omega⟩
            · go_simp
              have G5 : Hid (LG w (v1.alloc (.cells #[.int .i64 (j : Int)] 3)) G l.length LA nf fx (.slice af nf cf) nf tx (.slice at0 nf ct0)) := G1.out.grow (below_new _ _)
              have P5 : Hid (PtAt (v1.alloc (.cells #[.int .i64 (j : Int)] 3)) gt G j ⟨co, (fn : Int), se, cx, t, d, p⟩ tv0) := P1.out.grow (below_new _ _)
              have f5 : (v1.alloc (.cells #[.int .i64 (j : Int)] 3)).heap[v1.heap.size]? = some (.cells #[.int .i64 (j : Int)] 3 (0, 0)) := heap_alloc_new _ _
              have g5 := ((below_new v1 (.cells #[.int .i64 (j : Int)] 3)).block _ (Array.getElem?_eq_some_iff.1 f1).1).trans f1
              generalize (v1.alloc (.cells #[.int .i64 (j : Int)] 3)) = v5 at G5 P5 g5 f5 ⊢
              refine hK.out _ _ (PtAt.cells (x := ⟨co, (fn : Int), se, cx, t, d, p⟩) P5.out) (fun hHeld => ?_)
              clear hK K
              try simp only [List.set_cons_zero, List.set_cons_succ]
              refine wpAnyH_ready (rs := [13]) (by kernel_rfl) (by simp) ?_
              refine AllReadyH.cons rfl (fun K hK => ?_) AllReadyH.nil
              obtain ⟨ad6, c6, v6, hrun, h9, k9⟩ := G5.out.pushF ⟨se, t, d, tv0⟩ g5 (by omega)
              have G6 : Hid (LG w v6 G l.length LA (nf + 1) (fx ++ [.int .i64 se, .int .i64 t, .int .i64 d, .int .i64 tv0]) (.slice ad6 (nf + 1) c6) nf tx (.slice at0 nf ct0)) := h9
              have P6 : Hid (PtAt v6 gt G j ⟨co, (fn : Int), se, cx, t, d, p⟩ tv0) := ⟨k9 _ _ _ P5.out.1 (by decide), (cells_of h9.row).1 j _ HRC.out⟩
              have g6 := k9 _ _ _ f5 (by decide)
              clear k9 h9
              refine region_append2 rfl (.tmp 38) (.tmp 50) 61 51 rfl rfl rfl hrun rfl ?_
              refine hK.out _ _ (PtAt.cells (x := ⟨co, (fn : Int), se, cx, t, d, p⟩) P6.out) (fun hHeld => ?_)
              clear hrun
              clear hK K
              try simp only [List.set_cons_zero, List.set_cons_succ]
              simp only [Act.put, List.setIfInBounds_toArray]
              try simp only [List.set_cons_zero, List.set_cons_succ]
              refine wpAnyH_ready (rs := [17]) (by kernel_rfl) (by simp) ?_
              refine AllReadyH.cons rfl (fun K hK => ?_) AllReadyH.nil
              obtain ⟨ad7, c7, v7, hrun, h9, k9⟩ := G6.out.pushT (j : Int) g6 (by omega)
              have G7 : Hid (LG w v7 G l.length LA _ _ _ (nf + 1) _ (.slice ad7 (nf + 1) c7)) := h9
              refine region_append2 rfl (.tmp 52) (.tmp 54) 24 55 rfl rfl rfl hrun rfl ?_
              refine hK.out _ _ (PtAt.cells (x := ⟨co, (fn : Int), se, cx, t, d, p⟩) ⟨k9 _ _ _ P6.out.1 (by decide), (cells_of h9.row).1 j _ HRC.out⟩) (fun hHeld => ?_)
              clear hrun k9 h9
              clear hK K
              try simp only [List.set_cons_zero, List.set_cons_succ]
              simp only [Act.put, List.setIfInBounds_toArray]
              try simp only [List.set_cons_zero, List.set_cons_succ]
              refine take_at (i := 18) (n := 7) (v := ?_) rfl rfl (by kernel_rfl) (by kernel_rfl) (by kernel_rfl) (fun _ _ _ h => h) (Or.inl ⟨by rfl, ?_⟩) (by assumption) ?_
              rotate_left 1
              · intro wz hSw
                obtain ⟨s2, s4, s5, sl⟩ := hSw
                first | (go_simp; done) | (go_simp; with_reducible rfl)
              simp only [List.set_cons_zero, List.set_cons_succ]
              refine take_at (i := 19) (n := 8) (v := ?_) rfl rfl (by kernel_rfl) (by kernel_rfl) (by kernel_rfl) (fun _ _ _ h => h) (Or.inl ⟨by rfl, ?_⟩) (by assumption) ?_
              rotate_left 1
              · intro wz hSw
                obtain ⟨s2, s4, s5, sl⟩ := hSw
                first | (go_simp; done) | (go_simp; with_reducible rfl)
              simp only [List.set_cons_zero, List.set_cons_succ]
              refine wpAnyH_done (by kernel_rfl) ?_ _
              refine NoPanic.normal ?_
              clear hHeld
              go_wp2_with fail
              exact ⟨⟨j + 1, _, _, by omega, rfl, rfl, by simp, HEnd.out _ _ _ G7.out⟩, by simp [intOf]; omega⟩
          · go_simp
            have G8 : Hid (LG w (w6.alloc (.cells #[.int .i64 (j : Int)] 3)).drew G l.length LA nf fx (.slice af nf cf) nf tx (.slice at0 nf ct0)) := HG6.out.grow (below_new _ _).drew
            have P8 : Hid (PtAt (w6.alloc (.cells #[.int .i64 (j : Int)] 3)).drew gt G j ⟨co, (fn : Int), se, cx, t, d, p⟩ tv0) := HP6.out.grow (below_new _ _).drew
            have f8 : (w6.alloc (.cells #[.int .i64 (j : Int)] 3)).drew.heap[w6.heap.size]? = some (.cells #[.int .i64 (j : Int)] 3 (0, 0)) := heap_alloc_new _ _
            generalize (w6.alloc (.cells #[.int .i64 (j : Int)] 3)).drew = v8 at G8 P8 f8 ⊢
            refine hK.out _ _ (PtAt.cells (x := ⟨co, (fn : Int), se, cx, t, d, p⟩) P8.out) (fun hHeld => ?_)
            clear hK K
            try simp only [List.set_cons_zero, List.set_cons_succ]
            refine wpAnyH_ready (rs := [12]) (by kernel_rfl) (by simp) ?_
            refine AllReadyH.cons rfl (fun K hK => ?_) AllReadyH.nil
            go_simp
            have G9 : Hid (LG w (v8.alloc (.cells #[.int .i64 se, .int .i64 t, .int .i64 d, .int .i64 tv0] 64)) G l.length LA nf fx (.slice af nf cf) nf tx (.slice at0 nf ct0)) := G8.out.grow (below_new _ _)
            have P9 : Hid (PtAt (v8.alloc (.cells #[.int .i64 se, .int .i64 t, .int .i64 d, .int .i64 tv0] 64)) gt G j ⟨co, (fn : Int), se, cx, t, d, p⟩ tv0) := P8.out.grow (below_new _ _)
            have f9 : (v8.alloc (.cells #[.int .i64 se, .int .i64 t, .int .i64 d, .int .i64 tv0] 64)).heap[v8.heap.size]? = some (.cells #[.int .i64 se, .int .i64 t, .int .i64 d, .int .i64 tv0] 64 (0, 0)) := heap_alloc_new _ _
            have g9 := ((below_new v8 (.cells #[.int .i64 se, .int .i64 t, .int .i64 d, .int .i64 tv0] 64)).block _ (Array.getElem?_eq_some_iff.1 f8).1).trans f8
            generalize (v8.alloc (.cells #[.int .i64 se, .int .i64 t, .int .i64 d, .int .i64 tv0] 64)) = v9 at G9 P9 f9 g9 ⊢
            refine hK.out _ _ (PtAt.cells (x := ⟨co, (fn : Int), se, cx, t, d, p⟩) P9.out) (fun hHeld => ?_)
            clear hK K
            try simp only [List.set_cons_zero, List.set_cons_succ]
            refine wpAnyH_ready (rs := [13]) (by kernel_rfl) (by simp) ?_
            refine AllReadyH.cons rfl (fun K hK => ?_) AllReadyH.nil
            obtain ⟨ad10, c10, v10, hrun, h9, k9⟩ := G9.out.pushF ⟨se, t, d, tv0⟩ f9 (by omega)
            have G10 : Hid (LG w v10 G l.length LA (nf + 1) (fx ++ [.int .i64 se, .int .i64 t, .int .i64 d, .int .i64 tv0]) (.slice ad10 (nf + 1) c10) nf tx (.slice at0 nf ct0)) := h9
            have P10 : Hid (PtAt v10 gt G j ⟨co, (fn : Int), se, cx, t, d, p⟩ tv0) := ⟨k9 _ _ _ P9.out.1 (by decide), (cells_of h9.row).1 j _ HRC.out⟩
            have g10 := k9 _ _ _ g9 (by decide)
            clear k9 h9
            refine region_append2 rfl (.tmp 38) (.tmp 50) 61 51 rfl rfl rfl hrun rfl ?_
            refine hK.out _ _ (PtAt.cells (x := ⟨co, (fn : Int), se, cx, t, d, p⟩) P10.out) (fun hHeld => ?_)
            clear hrun
            clear hK K
            try simp only [List.set_cons_zero, List.set_cons_succ]
            simp only [Act.put, List.setIfInBounds_toArray]
            try simp only [List.set_cons_zero, List.set_cons_succ]
            refine wpAnyH_ready (rs := [17]) (by kernel_rfl) (by simp) ?_
            refine AllReadyH.cons rfl (fun K hK => ?_) AllReadyH.nil
            obtain ⟨ad11, c11, v11, hrun, h9, k9⟩ := G10.out.pushT (j : Int) g10 (by omega)
            have G11 : Hid (LG w v11 G l.length LA _ _ _ (nf + 1) _ (.slice ad11 (nf + 1) c11)) := h9
            refine region_append2 rfl (.tmp 52) (.tmp 54) 24 55 rfl rfl rfl hrun rfl ?_
            refine hK.out _ _ (PtAt.cells (x := ⟨co, (fn : Int), se, cx, t, d, p⟩) ⟨k9 _ _ _ P10.out.1 (by decide), (cells_of h9.row).1 j _ HRC.out⟩) (fun hHeld => ?_)
            clear hrun k9 h9
            clear hK K
            try simp only [List.set_cons_zero, List.set_cons_succ]
            simp only [Act.put, List.setIfInBounds_toArray]
            try simp only [List.set_cons_zero, List.set_cons_succ]
            refine take_at (i := 18) (n := 7) (v := ?_) rfl rfl (by kernel_rfl) (by kernel_rfl) (by kernel_rfl) (fun _ _ _ h => h) (Or.inl ⟨by rfl, ?_⟩) (by assumption) ?_
            rotate_left 1
            · intro wz hSw
              obtain ⟨s2, s4, s5, sl⟩ := hSw
              first | (go_simp; done) | (go_simp; with_reducible rfl)
            simp only [List.set_cons_zero, List.set_cons_succ]
            refine take_at (i := 19) (n := 8) (v := ?_) rfl rfl (by kernel_rfl) (by kernel_rfl) (by kernel_rfl) (fun _ _ _ h => h) (Or.inl ⟨by rfl, ?_⟩) (by assumption) ?_
            rotate_left 1
            · intro wz hSw
              obtain ⟨s2, s4, s5, sl⟩ := hSw
              first | (go_simp; done) | (go_simp; with_reducible rfl)
            simp only [List.set_cons_zero, List.set_cons_succ]
            refine wpAnyH_done (by kernel_rfl) ?_ _
            refine NoPanic.normal ?_
            clear hHeld
            go_wp2_with fail
            exact ⟨⟨j + 1, _, _, by omega, rfl, rfl, by simp, HEnd.out _ _ _ G11.out⟩, by simp [intOf]; omega⟩
    · skip
      have hje : j = l.length := by omega
      subst hje
      have hS := HS.out
      rw [List.take_length] at hS
      clear HS
      obtain ⟨m, hm⟩ : ∃ m, (frsP l tk).length = m := ⟨_, rfl⟩
      have hm8 : m ≤ 8 := by rw [← hm]; exact Nat.le_trans (frFrom_len l tk 0) h8
      obtain ⟨adf, cf, rfl⟩ := owns_value hS.fr
      obtain ⟨adt, ct, rfl⟩ := owns_value hS.tl
      rw [hm]
      have HS : Hid (LS w wr G l.length (lat0 l tk) (frsP l tk) (.slice adf m cf) (.slice adt m ct)) := by rw [hm] at hS; exact hS
      have HM : Hid ((frsP l tk).length = m) := hm
      clear hS hm
      have hji : ¬ ((l.length : Nat) : Int) < (l.length : Int) := by omega
      by_cases hm0 : m = 0
      · subst hm0
        go_wp2_with fail
        refine bodyPost_ret (lateness_ends rfl rfl) rfl ?_
        have hnil : frsP l tk = [] := List.eq_nil_of_length_eq_zero HM.out
        refine ⟨some (lat0 l tk), .inl ⟨hnil, rfl⟩, HS.out.bel, .inr ⟨lat0 l tk, _, rfl, rfl, ?_, ?_, lat0_len l tk⟩⟩
        · have hr := HS.out.row
          rw [← lat0_len l tk, runCells_full] at hr
          have h9 := row_ints hr
          rw [lat0_len] at h9
          exact h9
        · intro a n c e
          cases e
          exact HS.out.low
      have hmb : ((m : Int) == 0) = false := by simp; omega
      have HT := Times_any wr ((frsP l tk).map (·.2)) (.slice adf m cf) (own_rowSl (by have h9 := HS.out.fr; rw [HM.out] at h9; rw [List.length_map, HM.out]; exact h9))
      have hcel := HS.out.tl
      rw [HM.out] at hcel
      obtain ⟨tg, tc, cur, he, hlow, -⟩ := own_cells hcel (by omega)
      cases he
      have HTL : Hid (∀ q u, ((frsP l tk).map (fun y => Value.int .i64 (y.1 : Int)))[q]? = some u → wr.cell? ⟨tg, q, none⟩ = some u) := fun q u hq => by
        have h9 := hcel.cells (g := tg) rfl q u hq
        rw [Addr.add_lit, Nat.zero_add] at h9
        exact h9
      clear hcel
      have hG := HS.out.lt
      go_upto_region 15 with (go_at_call 26; refine HT.mono ?_; rintro r w5 ⟨ts, e, tv5, hta, rfl, hrow5, hb5, hn5⟩; obtain ⟨z1, z2⟩ := e; dsimp only at *; have H5 : Hid (Below wr.heap.size wr (w5.alloc (.cells #[.int .i64 z1, .int .i64 z2] 29)) ∧ TmA ((frsP l tk).map (·.2)) ts (z1, z2) ∧ RowSl nuV (w5.alloc (.cells #[.int .i64 z1, .int .i64 z2] 29)) ts tv5 ∧ NewSl wr.heap.size tv5) := ⟨below_seq hb5 (below_new _ _), hta, hrow5.below (below_new _ _), hn5⟩; clear hb5 hta hrow5 hn5 HT)
      have hnb := heap_alloc_new w5 (.cells #[.int .i64 z1, .int .i64 z2] 29)
      generalize w5.alloc (.cells #[.int .i64 z1, .int .i64 z2] 29) = w6 at *
      generalize w5.heap.size = gf at *
      have hne : frsP l tk ≠ [] := fun e => by have h9 := HM.out; rw [e] at h9; simp at h9; omega
      obtain ⟨qs, -, ql⟩ := cells_of (l := [_, _]) hnb
      have q0 := qs 0 _ rfl
      clear qs hnb
      by_cases hz : z1 = 0
      · subst hz
        obtain ⟨hb6, hta, hrow6, hn6⟩ := H5.out
        have hlt : ts.length = m := by
          rcases hta with ⟨h9, -, h10⟩ | ⟨-, h9⟩
          · rw [← h10] at h9; simp at h9
          · have h10 := h9.len rfl
            rw [List.length_map, HM.out] at h10
            exact h10
        obtain ⟨ad5, c5, rfl, -, hc5, hr5⟩ := hrow6
        rcases hr5 with h9 | ⟨b5, o5, rfl, hr5⟩
        · rw [h9] at hlt; simp at hlt; omega
        have hb5 : G < b5 := Nat.lt_of_lt_of_le hG (hn6 _ _ _ rfl)
        rw [hlt] at hc5 ⊢
        have H6 : Hid (L2 w w6 G tg b5 o5 l.length (lat0 l tk) (frsP l tk) ts) := ⟨below_seq HS.out.bel hb6, by rw [(hb6.block _ hG), HS.out.row, ← lat0_len l tk, runCells_full], fun q u hq => below_cell hb6 (HTL.out q u hq), hr5, lat0_len l tk⟩
        have HE : Hid (TmA ((frsP l tk).map (·.2)) ts (0, z2) ∧ ts.length = m ∧ w.heap.size ≤ G) := ⟨hta, hlt, HS.out.low⟩
        clear hb6 hta hr5 H5 HTL HS
        go_wp2_with fail
        go_loopw [71] (fun iv wr => ∃ k : Nat, k ≤ m ∧ iv = .int .i64 (k : Int) ∧ Hid (∃ late, L2 w wr G tg b5 o5 l.length late (frsP l tk) ts ∧ putAll late (((frsP l tk).map (·.1)).drop k) (ts.drop k) = putAll (lat0 l tk) ((frsP l tk).map (·.1)) ts)) (fun iv _ => m - (intOf iv).toNat)
        case atStart => exact ⟨0, Nat.zero_le _, rfl, ⟨_, H6.out, rfl⟩⟩
        case round =>
          obtain ⟨k, hk, rfl, HK⟩ := hrel
          clear H6
          by_cases hkm : k < m
          · obtain ⟨late, hL, hput⟩ := HK.out
            obtain ⟨y, hy, -⟩ := drop_at (l := frsP l tk) (k := k) (by have := HM.out; omega)
            obtain ⟨tz, htz, hdz⟩ := drop_at (l := ts) (k := k) (by have := HE.out.2.1; omega)
            have hyl : y.1 < l.length := by have h9 := (frFrom_idx l tk 0 y (List.mem_of_getElem? hy)).2; omega
            have ck := hL.tl k (.int .i64 (y.1 : Int)) (by rw [List.getElem?_map, hy]; rfl)
            have cz := nu_at hL.tm htz
            obtain ⟨rc, rf, rl⟩ := cells_of (l := late.map (Value.int .i64)) hL.row
            have r0 := rc y.1 _ (List.getElem?_eq_getElem (by rw [List.length_map, hL.len]; exact hyl))
            have rf0 := rf y.1
            generalize (late.map (Value.int .i64))[y.1]'_ = rold at r0
            have HP : Hid (L2 w (wr.setCell ⟨G, y.1, none⟩ (.int .i64 tz)) G tg b5 o5 l.length (late.set y.1 tz) (frsP l tk) ts ∧ putAll (late.set y.1 tz) (((frsP l tk).map (·.1)).drop (k + 1)) (ts.drop (k + 1)) = putAll (lat0 l tk) ((frsP l tk).map (·.1)) ts) := by
              refine ⟨hL.put HE.out.2.2 (by omega) hb5 _ _, ?_⟩
              rw [← hput]
              have hyk : ((frsP l tk).map (·.1))[k]? = some y.1 := by rw [List.getElem?_map, hy]; rfl
              obtain ⟨hk1, hk2⟩ := List.getElem?_eq_some_iff.1 hyk
              rw [List.drop_eq_getElem_cons hk1, hk2, hdz, putAll]
            clear hL hput HK rc rf hy htz hdz
            generalize y.1 = yi at *
            have hki : (k : Int) < (m : Int) := by omega
            have hyi : (yi : Int) < (l.length : Int) := by omega
            have lg1 := World.block_lt_of_cell? _ _ ck
            have lg2 := World.block_lt_of_cell? _ _ cz
            go_wp2_with fail
            exact ⟨⟨k + 1, by omega, by simp, ⟨_, HP.out.1, HP.out.2⟩⟩, by simp [intOf]; omega⟩
          · have hke : k = m := by omega
            subst hke
            have hki : ¬ ((k : Nat) : Int) < (k : Int) := by omega
            go_wp2_with fail
            refine bodyPost_ret (lateness_ends rfl rfl) rfl ?_
            obtain ⟨late, hL, hput⟩ := HK.out
            rw [List.drop_eq_nil_of_le (by rw [List.length_map, HM.out]; omega)] at hput
            have hput2 : late = putAll (lat0 l tk) ((frsP l tk).map (·.1)) ts := by rw [← hput]; simp [putAll]
            refine ⟨some late, .inr ⟨hne, ts, (0, z2), HE.out.1, .inr ⟨rfl, by rw [hput2]⟩⟩, hL.bel, .inr ⟨late, _, rfl, rfl, ?_, ?_, hL.len⟩⟩
            · have h9 := row_ints hL.row
              rw [hL.len] at h9
              exact h9
            · intro a n c e
              cases e
              exact HE.out.2.2
      · have hzb : (z1 != 0) = true := by simpa using hz
        go_wp2_with fail
        refine bodyPost_ret (lateness_ends rfl rfl) rfl ?_
        exact ⟨none, .inr ⟨hne, ts, (z1, z2), H5.out.2.1, .inl ⟨hz, rfl⟩⟩, below_seq HS.out.bel H5.out.1, .inl ⟨rfl, rfl⟩⟩
end Go.Proofs.Ytccoobcggbbciam
