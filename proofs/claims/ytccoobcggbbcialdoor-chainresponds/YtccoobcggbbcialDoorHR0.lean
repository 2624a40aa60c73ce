import Derived.Test.YtccoobcggbbcialDoorHQ2
import Derived.Deep.CutRange
import Derived.Deep.CutBlock
namespace Go.Proofs.YtccoobcggbbcialDoor
open Go.ChangeShapes Go.WideShapes Go.ChangeAt Go.RowKit

theorem PartTimes_ends {w : World} {g : Nat} {c k v : Value} {a : Act} (h : w.heap[g]? = some (.cells #[c, k] 30 (0, 0))) (h2 : a.tmps[2]?.getD undef = v) (h3 : a.tmps[3]?.getD undef = .pointer (some ⟨g, 0, none⟩)) :
    (results Tryd.f26 a.tmps).run Tryd.prog w = .ok (.tuple #[v, .agg #[c, k]]) w := by
  obtain ⟨c1, f1, l1⟩ := cells_of (l := [_, _]) h
  have c10 := c1 0 _ rfl
  have c11 := c1 1 _ rfl
  simp [results, Tryd.results26, go_sem, h2, h3, c10, c11]

theorem PtAt.cells5 {W : World} {gt gl i : Nat} {x : Pa} {tv : Int} (h : PtAt W gt gl i x tv) : W.cell? ⟨gt, 1, none⟩ = some (.int .i64 x.fr) ∧ W.cell? ⟨gt, 2, none⟩ = some (.int .i64 x.se) ∧ W.cell? ⟨gt, 4, none⟩ = some (.int .i64 x.t) ∧ W.cell? ⟨gt, 5, none⟩ = some (.int .i64 x.d) ∧ W.cell? ⟨gl, i, none⟩ = some (.int .i64 tv) := by
  obtain ⟨c, -, -⟩ := cells_of (l := [_, _, _, _, _, _, _]) h.1
  exact ⟨c 1 _ rfl, c 2 _ rfl, c 4 _ rfl, c 5 _ rfl, h.2⟩
theorem PtAt.cells3 {W : World} {gt gl i : Nat} {x : Pa} {tv : Int} (h : PtAt W gt gl i x tv) : W.cell? ⟨gt, 3, none⟩ = some (.int .i64 x.c) ∧ W.cell? ⟨gt, 4, none⟩ = some (.int .i64 x.t) ∧ W.cell? ⟨gl, i, none⟩ = some (.int .i64 tv) := by
  obtain ⟨c, -, -⟩ := cells_of (l := [_, _, _, _, _, _, _]) h.1
  exact ⟨c 3 _ rfl, c 4 _ rfl, h.2⟩
theorem FrA.push2 {WB W : World} {fs : List (Nat × Fr)} {fv : Value} {ge : Nat} (h : FrA WB W fs fv) (i : Nat) (x : Fr) (hc : W.heap[ge]? = some (.cells #[.int .i64 x.c, .int .i64 x.t, .int .i64 x.d, .int .i64 x.j] 93 (0, 0))) (hl : fs.length ≤ 100) : ∃ ad c w4, (Builtin.append_ #[91, 91] 91 #[fv, .slice (some ⟨ge, 0, none⟩) 1 1]).run Tryd.prog W = .ok (.slice ad (fs.length + 1) c) w4 ∧ FrA WB w4 (fs ++ [(i, x)]) (.slice ad (fs.length + 1) c) ∧ ∀ (k : Nat) (cs : Array Value) (ty : TypeId), W.heap[k]? = some (.cells cs ty (0, 0)) → ty ≠ 93 → w4.heap[k]? = some (.cells cs ty (0, 0)) := by
  obtain ⟨ad, c, w4, h1, h2, h3, h4⟩ := own_pushA (T := 91) (E := 93) Tryd.underlying91 infoFr rfl (by omega) h.2 x.vals rfl (cells_of (l := x.vals) hc).1 (fun u hu => Fr.oneC hu) (by omega) (by omega) h.1.size
  refine ⟨ad, c, w4, h1, ⟨h.1.trans h3, ?_⟩, fun k cs ty hk ht => h4 k cs ty hk (.inl ht)⟩
  simpa using h2
theorem TaA.push2 {WB W : World} {os : List Ta} {fv : Value} {ge : Nat} (h : TaA WB W os fv) (x : Ta) (hc : W.heap[ge]? = some (.cells #[.string x.nm, .int .i64 x.c, .int .i64 x.t, .int .i64 x.d, .int .i64 x.j, .int .i64 x.o, .int .i64 x.p] 27 (0, 0))) (hl : os.length ≤ 100) : ∃ ad c w4, (Builtin.append_ #[22, 22] 22 #[fv, .slice (some ⟨ge, 0, none⟩) 1 1]).run Tryd.prog W = .ok (.slice ad (os.length + 1) c) w4 ∧ TaA WB w4 (os ++ [x]) (.slice ad (os.length + 1) c) ∧ ∀ (k : Nat) (cs : Array Value) (ty : TypeId), W.heap[k]? = some (.cells cs ty (0, 0)) → ty ≠ 27 → w4.heap[k]? = some (.cells cs ty (0, 0)) := by
  obtain ⟨ad, c, w4, h1, h2, h3, h4⟩ := own_pushA (T := 22) (E := 27) Tryd.underlying22 infoTa rfl (by omega) h.2 x.vals rfl (cells_of (l := x.vals) hc).1 (fun u hu => Ta.one hu) (by omega) (by omega) h.1.size
  refine ⟨ad, c, w4, h1, ⟨h.1.trans h3, ?_⟩, fun k cs ty hk ht => h4 k cs ty hk (.inl ht)⟩
  simpa using h2
theorem PtAt.keep {W W' : World} {gt GT i : Nat} {x : Pa} {tv : Int} {cs : Array Value} {E : TypeId} (h : PtAt W gt GT i x tv) (hT : W.heap[GT]? = some (.cells cs 3 (0, 0))) (h26 : 53 ≠ E) (h3 : 3 ≠ E) (hk : ∀ (k : Nat) (cs : Array Value) (ty : TypeId), W.heap[k]? = some (.cells cs ty (0, 0)) → ty ≠ E → W'.heap[k]? = some (.cells cs ty (0, 0))) : PtAt W' gt GT i x tv := by
  refine ⟨hk _ _ _ h.1 h26, ?_⟩
  have h9 := hk _ _ _ hT h3
  have h8 := h.2
  unfold World.cell? at h8 ⊢
  rw [h9]
  rw [hT] at h8
  exact h8

def TWr (W : World) (GD : Nat) (tv : Value) (ts : List Int) : Prop := RowSl nuV W ts tv ∧ ∀ a n c, tv = .slice (some a) n c → a.block ≠ GD
theorem TWr.nil (W : World) (GD : Nat) : TWr W GD (.slice none 0 0) [] := ⟨RowSl.nil _ _, fun a n c e => by cases e⟩
theorem TWr.grow {W W' : World} {GD : Nat} {tv : Value} {ts : List Int} (h : TWr W GD tv ts) (hb : Below W.heap.size W W') : TWr W' GD tv ts := ⟨h.1.below hb, h.2⟩
theorem TWr.setD {W : World} {GD : Nat} {tv : Value} {ts : List Int} (h : TWr W GD tv ts) (i : Nat) (z : Value) : TWr (W.setCell ⟨GD, i, none⟩ z) GD tv ts := by
  obtain ⟨⟨ad, c, rfl, h1, h2, h3⟩, hn⟩ := h
  refine ⟨⟨ad, c, rfl, h1, h2, ?_⟩, hn⟩
  rcases h3 with h3 | ⟨b, o, rfl, h3⟩
  · exact .inl h3
  · exact .inr ⟨b, o, rfl, fun q u hq => by rw [cell_other (show b ≠ GD from hn _ _ _ rfl)]; exact h3 q u hq⟩
theorem TWr.tail {W : World} {GD tb to' tc : Nat} {ts : List Int} (h : TWr W GD (.slice (some ⟨tb, to', none⟩) ts.length tc) ts) (h1 : 1 ≤ ts.length) : TWr W GD (.slice (if tc = 1 then some ⟨tb, to', none⟩ else some ⟨tb, to' + 1, none⟩) (ts.length - 1) (tc - 1)) ts.tail := by
  refine ⟨nuDrop h.1 h1, fun a n c e => ?_⟩
  have h9 := h.2 _ _ _ rfl
  split at e <;> cases e <;> exact h9

/-- What an outer round holds. -/
def OutR (w W : World) (l : List Pa) (GT GD : Nat) (tk td : List Int) : Prop := PT w W GT GD tk td ∧ Rise l tk ∧ td.length = l.length ∧ ∀ (i : Nat) (x : Pa), l[i]? = some x → x.fr = -1 → td.getD i 0 = 0
set_option maxRecDepth 20000 in
set_option maxHeartbeats 16000000 in
theorem PartTimes_any (w : World) (l : List Pa) (v : Value) (hv : RowSl Pa.vals w l v) : Calls Tryd.prog 26 #[v] w (RespsPost w l) := by
  have HC := CheckParts_any (w.alloc (.cells #[.int .i64 0, .int .i64 0] 30)) l v (hv.below (below_new _ _))
  obtain ⟨z1, z2, hz⟩ : ∃ z1 z2, chkP l = (z1, z2) := ⟨_, _, rfl⟩
  have HZ : Hid (chkP l = (z1, z2)) := hz
  rw [hz] at HC
  dsimp only at HC
  obtain ⟨ad, c, rfl⟩ := hv.len
  have HV : Hid (RowSl Pa.vals w l (.slice ad l.length c)) := hv
  have hF : Hid (FB w (w.alloc (.cells #[.int .i64 0, .int .i64 0] 30)) w.heap.size) := FB.start w
  clear hv hz
  go_enter Tryd.func26, Tryd.ntmps26
  go_upto_region 2 with (go_at_call 24; refine HC.mono ?_; rintro r w1 ⟨rfl, hb1⟩; have H1 : Hid (FB w (w1.alloc (.cells #[.int .i64 z1, .int .i64 z2] 30)) w.heap.size) := (hF.out.grow hb1).grow (below_new _ _); have hl1 : w.heap.size < w1.heap.size := (hF.out.grow hb1).lt; clear hb1 HC)
  obtain ⟨fs, -, fl⟩ := cells_of (l := [_, _]) (heap_alloc_new w1 (.cells #[.int .i64 z1, .int .i64 z2] 30))
  have g0 := fs 0 _ rfl
  have g1 := fs 1 _ rfl
  clear fs hF
  generalize w1.alloc (.cells #[.int .i64 z1, .int .i64 z2] 30) = w2 at *
  generalize w1.heap.size = gf at *
  by_cases h0 : z1 = 0
  rotate_left 1
  · have hz1 : (z1 != 0) = true := by simpa using h0
    obtain ⟨q0, q1, qf0, qf1, ql⟩ := H1.out.res2
    have HN : Hid (z1 ≠ 0) := h0
    clear h0
    go_wp2_with fail
    go_region
    all_goals go_wp2_with fail
    all_goals
      refine bodyPost_ret (PartTimes_ends (g := w.heap.size) (c := .int .i64 z1) (k := .int .i64 z2) (v := .slice none 0 0) (set_two H1.out.res) rfl rfl) rfl ?_
      exact ⟨[], (z1, z2), _, .inl ⟨by rw [HZ.out]; exact HN.out, rfl, HZ.out.symm⟩, rfl, RowSl.nil _ _, (H1.out.set _ _).drew, NewSl.none _ _ _⟩
  subst h0
  have hok := chkP_ok (l := l) (by rw [HZ.out])
  have h1 := hok.one
  have h8 := hok.most
  have HOK : Hid (PsOk l) := hok
  clear hok
  go_upto_region 4 with fail
  clear g0 g1 hl1 fl
  obtain ⟨w3, hmk, hb3, hh3⟩ := make_ints w2.drew l.length (by omega)
  obtain ⟨w4, hmk4, hb4, hh4⟩ := make_ints w3 l.length (by omega)
  have HPT : Hid (PT w w4 w2.drew.heap.size w3.heap.size (List.replicate l.length 0) (List.replicate l.length 0) ∧ PT w w4 w3.heap.size w2.drew.heap.size (List.replicate l.length 0) (List.replicate l.length 0)) := PT.start H1.out hb3 hh3 hb4 hh4
  clear hb3 hh3 hb4 hh4
  go_cut [5, 6] from 30 to 35 (fun tv dv W => ∃ GT GD, tv = .slice (some ⟨GT, 0, none⟩) l.length l.length ∧ dv = .slice (some ⟨GD, 0, none⟩) l.length l.length ∧ PT w W GT GD (List.replicate l.length 0) (List.replicate l.length 0))
  case first =>
    refine wp_region_noPanic ?_
    refine wp_region_held_drew (S := fun w' => True) (by kernel_rfl) trivial (fun hHeld => ?_)
    refine take_at (i := 0) (n := 30) (v := ?_) rfl rfl (by kernel_rfl) (by kernel_rfl) (by kernel_rfl) (fun _ _ _ h => h) (Or.inl ⟨by rfl, ?_⟩) (by assumption) ?_
    rotate_left 1
    · intro wz hSw
      clear hSw
      first | (go_simp; done) | (go_simp; with_reducible rfl)
    simp only [List.set_cons_zero, List.set_cons_succ]
    refine take_at (i := 1) (n := 31) (v := ?_) rfl rfl (by kernel_rfl) (by kernel_rfl) (by kernel_rfl) (fun _ _ _ h => h) (Or.inl ⟨by rfl, ?_⟩) (by assumption) ?_
    rotate_left 1
    · intro wz hSw
      clear hSw
      first | (go_simp; done) | (go_simp; with_reducible rfl)
    simp only [List.set_cons_zero, List.set_cons_succ]
    refine take_at (i := 3) (n := 33) (v := ?_) rfl rfl (by kernel_rfl) (by kernel_rfl) (by kernel_rfl) (fun _ _ _ h => h) (Or.inl ⟨by rfl, ?_⟩) (by assumption) ?_
    rotate_left 1
    · intro wz hSw
      clear hSw
      first | (go_simp; done) | (go_simp; with_reducible rfl)
    simp only [List.set_cons_zero, List.set_cons_succ]
    refine take_at (i := 4) (n := 34) (v := ?_) rfl rfl (by kernel_rfl) (by kernel_rfl) (by kernel_rfl) (fun _ _ _ h => h) (Or.inl ⟨by rfl, ?_⟩) (by assumption) ?_
    rotate_left 1
    · intro wz hSw
      clear hSw
      first | (go_simp; done) | (go_simp; with_reducible rfl)
    simp only [List.set_cons_zero, List.set_cons_succ]
    refine wpAnyH_ready (rs := [2, 5]) (by kernel_rfl) (by simp) ?_
    refine AllReadyH.cons rfl (fun K hK => ?_) (AllReadyH.cons rfl (fun K hK => ?_) AllReadyH.nil)
    · skip
      go_simp
      refine hK.out _ _ trivial (fun hHeld => ?_)
      clear hK K
      try simp only [List.set_cons_zero, List.set_cons_succ]
      refine take_at (i := 6) (n := 5) (v := ?_) rfl rfl (by kernel_rfl) (by kernel_rfl) (by kernel_rfl) (fun _ _ _ h => h) (Or.inl ⟨by rfl, ?_⟩) (by assumption) ?_
      rotate_left 1
      · intro wz hSw
        clear hSw
        first | (go_simp; done) | (go_simp; with_reducible rfl)
      simp only [List.set_cons_zero, List.set_cons_succ]
      refine wpAnyH_ready (rs := [5]) (by kernel_rfl) (by simp) ?_
      refine AllReadyH.cons rfl (fun K hK => ?_) AllReadyH.nil
      go_simp
      refine hK.out _ _ trivial (fun hHeld => ?_)
      clear hK K
      try simp only [List.set_cons_zero, List.set_cons_succ]
      refine take_at (i := 7) (n := 6) (v := ?_) rfl rfl (by kernel_rfl) (by kernel_rfl) (by kernel_rfl) (fun _ _ _ h => h) (Or.inl ⟨by rfl, ?_⟩) (by assumption) ?_
      rotate_left 1
      · intro wz hSw
        clear hSw
        first | (go_simp; done) | (go_simp; with_reducible rfl)
      simp only [List.set_cons_zero, List.set_cons_succ]
      refine wpAnyH_done (by kernel_rfl) ?_ _
      refine NoPanic.normal ?_
      clear hHeld
      go_wp2_with fail
      go_meet
      case rel => exact ⟨_, _, rfl, rfl, HPT.out.1⟩
    · skip
      go_simp
      refine hK.out _ _ trivial (fun hHeld => ?_)
      clear hK K
      try simp only [List.set_cons_zero, List.set_cons_succ]
      refine wpAnyH_ready (rs := [2]) (by kernel_rfl) (by simp) ?_
      refine AllReadyH.cons rfl (fun K hK => ?_) AllReadyH.nil
      go_simp
      refine hK.out _ _ trivial (fun hHeld => ?_)
      clear hK K
      try simp only [List.set_cons_zero, List.set_cons_succ]
      refine take_at (i := 6) (n := 5) (v := ?_) rfl rfl (by kernel_rfl) (by kernel_rfl) (by kernel_rfl) (fun _ _ _ h => h) (Or.inl ⟨by rfl, ?_⟩) (by assumption) ?_
      rotate_left 1
      · intro wz hSw
        clear hSw
        first | (go_simp; done) | (go_simp; with_reducible rfl)
      simp only [List.set_cons_zero, List.set_cons_succ]
      refine take_at (i := 7) (n := 6) (v := ?_) rfl rfl (by kernel_rfl) (by kernel_rfl) (by kernel_rfl) (fun _ _ _ h => h) (Or.inl ⟨by rfl, ?_⟩) (by assumption) ?_
      rotate_left 1
      · intro wz hSw
        clear hSw
        first | (go_simp; done) | (go_simp; with_reducible rfl)
      simp only [List.set_cons_zero, List.set_cons_succ]
      refine wpAnyH_done (by kernel_rfl) ?_ _
      refine NoPanic.normal ?_
      clear hHeld
      go_wp2_with fail
      go_meet
      case rel => exact ⟨_, _, rfl, rfl, HPT.out.2⟩
  case rest =>
    obtain ⟨GT, GD, rfl, rfl, hP0⟩ := hcut
    have HP0 : Hid (PT w wc GT GD (List.replicate l.length 0) (List.replicate l.length 0)) := hP0
    clear HPT hP0 hmk hmk4 H1
    obtain ⟨ad', c', he, -, hcap, hrow⟩ := HV.out
    cases he
    rcases hrow with h | ⟨b, o, rfl, hrow⟩
    · rw [h] at h1; simp at h1
    have HRow : Hid (∀ q u, (l.flatMap Pa.vals)[q]? = some u → w.cell? ⟨b, o + q, none⟩ = some u) := hrow
    clear hrow
    go_wp2_with fail
    go_loopw [7] (fun _ wr => ∃ tk td, OutR w wr l GT GD tk td) (fun _ wr => 2 * mz l (rdN wr (.slice (some ⟨GT, 0, none⟩) l.length l.length)) + @ite Nat (LatR l (rdN wr (.slice (some ⟨GT, 0, none⟩) l.length l.length)) (some (rdN wr (.slice (some ⟨GD, 0, none⟩) l.length l.length)))) (Classical.propDecidable _) 0 1)
    case atStart =>
      refine ⟨_, _, HP0.out, Rise.start HOK.out, by simp, fun i x _ _ => ?_⟩
      rw [List.getD_eq_getElem?_getD, List.getElem?_replicate]
      split <;> rfl
    case round =>
      obtain ⟨tk, td, hout⟩ := hrel
      generalize wr = wR at *
      have HO : Hid (OutR w wR l GT GD tk td) := hout
      have hlk := HO.out.2.1.ok.1
      have hld := HO.out.2.2.1
      obtain ⟨v1, W1, gw, c7, W2, r1, r2, hb2, hgw, hc7, hpw⟩ := two_app2 HO.out.1 hlk hld h1 h8
      have HW : Hid (PW w W2 GT GD gw tk td (tk ++ td)) := hpw
      have HL : Hid (tk.length = l.length ∧ td.length = l.length) := ⟨hlk, hld⟩
      clear hout hb2 hgw hpw HP0 hlk hld
      go_upto_region 6 with (first | (at_builtin; refine append_known rfl (.tmp 38) (.tmp 39) 36 rfl rfl rfl r2 ?_) | (at_builtin; refine append_known rfl (.tmp 36) (.tmp 37) 36 rfl rfl rfl r1 ?_))
      clear r1 r2
      have HF0 : Hid (FrA W2 W2 (frsP (l.take 0) tk) (.slice none 0 0)) := FrA.start W2
      go_wp2_with fail
      go_loopw [8, 43] (fun fv iv wr => ∃ j : Nat, j ≤ l.length ∧ iv = .int .i64 (j : Int) ∧ Hid (FrA W2 wr (frsP (l.take j) tk) fv)) (fun _ iv _ => l.length - (intOf iv).toNat)
      case atStart => exact ⟨0, Nat.zero_le _, rfl, HF0⟩
      case round =>
        obtain ⟨j, hj, rfl, HF⟩ := hrel
        clear HF0
        by_cases hjl : j < l.length
        · obtain ⟨x, hx, -⟩ := drop_at hjl
          obtain ⟨y0, y1, y2, y3, y4, y5, y6⟩ := pa7_at (fun q u hq => below_cell (below_seq HW.out.pt.fb.bel HF.out.1) (HRow.out q u hq)) hx
          have lb : b < wr.heap.size := World.block_lt_of_cell? _ _ y0
          have hji : (j : Int) < (l.length : Int) := by omega
          have hfr := HOK.out.at_ j x hx
          have HSN0 : Hid (frsP (l.take (j + 1)) tk = frsP (l.take j) tk ++ (if x.fr ≠ -1 ∧ x.se ≠ 0 then [(j, (⟨x.se, x.t, x.d, tk.getD x.fr.toNat 0⟩ : Fr))] else [])) := frsP_snoc hx
          clear hx
          obtain ⟨co, fr, se, cx, t, d, p⟩ := x
          obtain ⟨-, ⟨se1, se2⟩, -, -, -, -, -, hfr⟩ := hfr
          dsimp only at y0 y1 y2 y3 y4 y5 y6 hfr se1 se2
          by_cases hs : se = 0
          · subst hs
            have HF2 : Hid (FrA W2 (wr.alloc (.cells #[.int .i64 co, .int .i64 fr, .int .i64 0, .int .i64 cx, .int .i64 t, .int .i64 d, .int .i64 p] 53)) (frsP (l.take (j + 1)) tk) u8) := by
              show FrA _ _ _ _
              rw [HSN0.out]
              simpa using HF.out.grow (below_new _ _)
            clear HF
            go_wp2_with fail
            exact ⟨⟨j + 1, by omega, by simp, HF2⟩, by simp [intOf]; omega⟩
          · have hsg : 0 < se := by omega
            obtain ⟨fn, hfn⟩ : ∃ fn : Nat, fr = (fn : Int) := ⟨fr.toNat, by omega⟩
            subst hfn
            have hfl : fn < l.length := by omega
            have hfi : (fn : Int) < (l.length : Int) := by omega
            obtain ⟨tv0, htv⟩ : ∃ tv0, tk[fn]? = some tv0 := ⟨_, List.getElem?_eq_getElem (by rw [HL.out.1]; exact hfl)⟩
            have HSN : Hid (frsP (l.take (j + 1)) tk = frsP (l.take j) tk ++ [(j, (⟨se, t, d, tv0⟩ : Fr))]) := by
              show _ = _
              rw [HSN0.out, if_pos ⟨by show (fn : Int) ≠ -1; omega, hs⟩]
              show _ ++ [(j, (⟨se, t, d, tk.getD (fn : Int).toNat 0⟩ : Fr))] = _
              rw [Int.toNat_natCast, List.getD_eq_getElem?_getD, htv]
              rfl
            have HT5 : Hid (PT w (wr.alloc (.cells #[.int .i64 co, .int .i64 (fn : Int), .int .i64 se, .int .i64 cx, .int .i64 t, .int .i64 d, .int .i64 p] 53)) GT GD tk td) := (HW.out.pt.grow HF.out.1).grow (below_new _ _)
            have HF5 : Hid (FrA W2 (wr.alloc (.cells #[.int .i64 co, .int .i64 (fn : Int), .int .i64 se, .int .i64 cx, .int .i64 t, .int .i64 d, .int .i64 p] 53)) (frsP (l.take j) tk) u8) := HF.out.grow (below_new _ _)
            have HP6 : Hid (PtAt (wr.alloc (.cells #[.int .i64 co, .int .i64 (fn : Int), .int .i64 se, .int .i64 cx, .int .i64 t, .int .i64 d, .int .i64 p] 53)) wr.heap.size GT fn ⟨co, (fn : Int), se, cx, t, d, p⟩ tv0) := ⟨heap_alloc_new _ _, (HT5.out.cT htv).1⟩
            clear HF HSN0 hfr
            go_upto_region 11 with fail
            clear y0 y1 y2 y3 y4 y5 y6 lb
            generalize wr.alloc (.cells #[.int .i64 co, .int .i64 (fn : Int), .int .i64 se, .int .i64 cx, .int .i64 t, .int .i64 d, .int .i64 p] 53) = w5 at *
            generalize wr.heap.size = gt at *
            obtain ⟨adf, cf, rfl⟩ := HF5.out.val
            obtain ⟨nf, hnf⟩ : ∃ nf, (frsP (l.take j) tk).length = nf := ⟨_, rfl⟩
            have HNF : Hid ((frsP (l.take j) tk).length = nf) := hnf
            have hnf8 : nf ≤ 8 := by rw [← hnf]; exact Nat.le_trans (frFrom_len _ _ _) (by rw [List.length_take]; omega)
            rw [hnf] at HF5
            rw [hnf]
            clear hnf htv
            obtain ⟨x1, x2, x4, x5, xl⟩ := HP6.out.cells5
            dsimp only at x1 x2 x4 x5 xl
            have lg := World.block_lt_of_cell? _ _ x1
            have lG := World.block_lt_of_cell? _ _ xl
            clear x1 x2 x4 x5 xl
            refine wp_region_noPanic ?_
            refine wp_region_held_drew (S := fun w' => w'.cell? ⟨gt, 1, none⟩ = some (.int .i64 (fn : Int)) ∧ w'.cell? ⟨gt, 2, none⟩ = some (.int .i64 se) ∧ w'.cell? ⟨gt, 4, none⟩ = some (.int .i64 t) ∧ w'.cell? ⟨gt, 5, none⟩ = some (.int .i64 d) ∧ w'.cell? ⟨GT, fn, none⟩ = some (.int .i64 tv0)) (by kernel_rfl) HP6.out.cells5 (fun hHeld => ?_)
            refine take_at (i := 0) (n := 50) (v := ?_) rfl rfl (by kernel_rfl) (by kernel_rfl) (by kernel_rfl) (fun _ _ _ h => h) (Or.inl ⟨by rfl, ?_⟩) (by assumption) ?_
            rotate_left 1
            · intro wz hSw
              obtain ⟨s1, s2, s4, s5, sl⟩ := hSw
              first | (go_simp; done) | (go_simp; with_reducible rfl)
            simp only [List.set_cons_zero, List.set_cons_succ]
            refine take_at (i := 1) (n := 51) (v := ?_) rfl rfl (by kernel_rfl) (by kernel_rfl) (by kernel_rfl) (fun _ _ _ h => h) (Or.inl ⟨by rfl, ?_⟩) (by assumption) ?_
            rotate_left 1
            · intro wz hSw
              obtain ⟨s1, s2, s4, s5, sl⟩ := hSw
              first | (go_simp; done) | (go_simp; with_reducible rfl)
            simp only [List.set_cons_zero, List.set_cons_succ]
            refine take_at (i := 2) (n := 52) (v := ?_) rfl rfl (by kernel_rfl) (by kernel_rfl) (by kernel_rfl) (fun _ _ _ h => h) (Or.inl ⟨by rfl, ?_⟩) (by assumption) ?_
            rotate_left 1
            · intro wz hSw
              obtain ⟨s1, s2, s4, s5, sl⟩ := hSw
              first | (go_simp; done) | (go_simp; with_reducible rfl)
            simp only [List.set_cons_zero, List.set_cons_succ]
            refine take_at (i := 3) (n := 53) (v := ?_) rfl rfl (by kernel_rfl) (by kernel_rfl) (by kernel_rfl) (fun _ _ _ h => h) (Or.inl ⟨by rfl, ?_⟩) (by assumption) ?_
            rotate_left 1
            · intro wz hSw
              obtain ⟨s1, s2, s4, s5, sl⟩ := hSw
              first | (go_simp; done) | (go_simp; with_reducible rfl)
            simp only [List.set_cons_zero, List.set_cons_succ]
            refine take_at (i := 4) (n := 54) (v := ?_) rfl rfl (by kernel_rfl) (by kernel_rfl) (by kernel_rfl) (fun _ _ _ h => h) (Or.inl ⟨by rfl, ?_⟩) (by assumption) ?_
            rotate_left 1
            · intro wz hSw
              obtain ⟨s1, s2, s4, s5, sl⟩ := hSw
              first | (go_simp; done) | (go_simp; with_reducible rfl)
            simp only [List.set_cons_zero, List.set_cons_succ]
            refine take_at (i := 5) (n := 55) (v := ?_) rfl rfl (by kernel_rfl) (by kernel_rfl) (by kernel_rfl) (fun _ _ _ h => h) (Or.inl ⟨by rfl, ?_⟩) (by assumption) ?_
            rotate_left 1
            · intro wz hSw
              obtain ⟨s1, s2, s4, s5, sl⟩ := hSw
              first | (go_simp; done) | (go_simp; with_reducible rfl)
            simp only [List.set_cons_zero, List.set_cons_succ]
            refine take_at (i := 6) (n := 56) (v := ?_) rfl rfl (by kernel_rfl) (by kernel_rfl) (by kernel_rfl) (fun _ _ _ h => h) (Or.inl ⟨by rfl, ?_⟩) (by assumption) ?_
            rotate_left 1
            · intro wz hSw
              obtain ⟨s1, s2, s4, s5, sl⟩ := hSw
              first | (go_simp; done) | (go_simp; with_reducible rfl)
            simp only [List.set_cons_zero, List.set_cons_succ]
            refine take_at (i := 7) (n := 57) (v := ?_) rfl rfl (by kernel_rfl) (by kernel_rfl) (by kernel_rfl) (fun _ _ _ h => h) (Or.inl ⟨by rfl, ?_⟩) (by assumption) ?_
            rotate_left 1
            · intro wz hSw
              obtain ⟨s1, s2, s4, s5, sl⟩ := hSw
              first | (go_simp; done) | (go_simp; with_reducible rfl)
            simp only [List.set_cons_zero, List.set_cons_succ]
            refine take_at (i := 8) (n := 58) (v := ?_) rfl rfl (by kernel_rfl) (by kernel_rfl) (by kernel_rfl) (fun _ _ _ h => h) (Or.inl ⟨by rfl, ?_⟩) (by assumption) ?_
            rotate_left 1
            · intro wz hSw
              obtain ⟨s1, s2, s4, s5, sl⟩ := hSw
              first | (go_simp; done) | (go_simp; with_reducible rfl)
            simp only [List.set_cons_zero, List.set_cons_succ]
            refine take_at (i := 9) (n := 59) (v := ?_) rfl rfl (by kernel_rfl) (by kernel_rfl) (by kernel_rfl) (fun _ _ _ h => h) (Or.inl ⟨by rfl, ?_⟩) (by assumption) ?_
            rotate_left 1
            · intro wz hSw
              obtain ⟨s1, s2, s4, s5, sl⟩ := hSw
              first | (go_simp; done) | (go_simp; with_reducible rfl)
            simp only [List.set_cons_zero, List.set_cons_succ]
            refine take_at (i := 10) (n := 60) (v := ?_) rfl rfl (by kernel_rfl) (by kernel_rfl) (by kernel_rfl) (fun _ _ _ h => h) (Or.inl ⟨by rfl, ?_⟩) (by assumption) ?_
            rotate_left 1
            · intro wz hSw
              obtain ⟨s1, s2, s4, s5, sl⟩ := hSw
              first | (go_simp; done) | (go_simp; with_reducible rfl)
            simp only [List.set_cons_zero, List.set_cons_succ]
            refine take_at (i := 11) (n := 61) (v := ?_) rfl rfl (by kernel_rfl) (by kernel_rfl) (by kernel_rfl) (fun _ _ _ h => h) (Or.inl ⟨by rfl, ?_⟩) (by assumption) ?_
            rotate_left 1
            · intro wz hSw
              obtain ⟨s1, s2, s4, s5, sl⟩ := hSw
              first | (go_simp; done) | (go_simp; with_reducible rfl)
            simp only [List.set_cons_zero, List.set_cons_succ]
            refine take_at (i := 12) (n := 62) (v := ?_) rfl rfl (by kernel_rfl) (by kernel_rfl) (by kernel_rfl) (fun _ _ _ h => h) (Or.inl ⟨by rfl, ?_⟩) (by assumption) ?_
            rotate_left 1
            · intro wz hSw
              obtain ⟨s1, s2, s4, s5, sl⟩ := hSw
              first | (go_simp; done) | (go_simp; with_reducible rfl)
            simp only [List.set_cons_zero, List.set_cons_succ]
            refine wpAnyH_ready (rs := [13]) (by kernel_rfl) (by simp) ?_
            refine AllReadyH.cons rfl (fun K hK => ?_) AllReadyH.nil
            go_simp
            have G7 : Hid (FrA W2 (w5.alloc (.cells #[.int .i64 se, .int .i64 t, .int .i64 d, .int .i64 tv0] 93)).drew (frsP (l.take j) tk) (.slice adf nf cf)) := HF5.out.grow (below_new _ _).drew
            have P7 : Hid (PtAt (w5.alloc (.cells #[.int .i64 se, .int .i64 t, .int .i64 d, .int .i64 tv0] 93)).drew gt GT fn ⟨co, (fn : Int), se, cx, t, d, p⟩ tv0) := HP6.out.grow (below_new _ _).drew
            have f7 : (w5.alloc (.cells #[.int .i64 se, .int .i64 t, .int .i64 d, .int .i64 tv0] 93)).drew.heap[w5.heap.size]? = some (.cells #[.int .i64 se, .int .i64 t, .int .i64 d, .int .i64 tv0] 93 (0, 0)) := heap_alloc_new w5 _
            have T7 := (HT5.out.grow (below_new w5 (.cells #[.int .i64 se, .int .i64 t, .int .i64 d, .int .i64 tv0] 93)).drew).rt
            generalize (w5.alloc (.cells #[.int .i64 se, .int .i64 t, .int .i64 d, .int .i64 tv0] 93)).drew = w7 at G7 P7 f7 T7 ⊢
            refine hK.out _ _ P7.out.cells5 (fun hHeld => ?_)
            clear hK K
            try simp only [List.set_cons_zero, List.set_cons_succ]
            obtain ⟨ad7, c7', w8, hrun, h9, k9⟩ := FrA.push2 G7.out j ⟨se, t, d, tv0⟩ f7 (by rw [HNF.out]; omega)
            rw [HNF.out] at hrun h9
            have G8 : Hid (FrA W2 w8 (frsP (l.take (j + 1)) tk) (.slice ad7 (nf + 1) c7')) := by
              show FrA _ _ _ _
              rw [HSN.out]
              exact h9
            have P8 : Hid (PtAt w8 gt GT fn ⟨co, (fn : Int), se, cx, t, d, p⟩ tv0) := P7.out.keep T7 (by decide) (by decide) k9
            refine wpAnyH_ready (rs := [14]) (by kernel_rfl) (by simp) ?_
            refine AllReadyH.cons rfl (fun K hK => ?_) AllReadyH.nil
            refine region_append2 rfl (.tmp 50) (.tmp 63) 91 64 rfl rfl rfl hrun rfl ?_
            refine hK.out _ _ P8.out.cells5 (fun hHeld => ?_)
            clear hrun k9 h9
            clear hK K
            try simp only [List.set_cons_zero, List.set_cons_succ]
            simp only [Act.put, List.setIfInBounds_toArray]
            try simp only [List.set_cons_zero, List.set_cons_succ]
            refine take_at (i := 15) (n := 8) (v := ?_) rfl rfl (by kernel_rfl) (by kernel_rfl) (by kernel_rfl) (fun _ _ _ h => h) (Or.inl ⟨by rfl, ?_⟩) (by assumption) ?_
            rotate_left 1
            · intro wz hSw
              obtain ⟨s1, s2, s4, s5, sl⟩ := hSw
              first | (go_simp; done) | (go_simp; with_reducible rfl)
            simp only [List.set_cons_zero, List.set_cons_succ]
            refine wpAnyH_done (by kernel_rfl) ?_ _
            refine NoPanic.normal ?_
            clear hHeld
            go_wp2_with fail
            exact ⟨⟨j + 1, by omega, by simp, G8.out⟩, by simp [intOf]; omega⟩
        · have hje : j = l.length := by omega
          subst hje
          have hFA := HF.out
          rw [List.take_length] at hFA
          have HB : Hid (FrA W2 wr (frsP l tk) u8) := hFA
          have HWB : Hid (PW w wr GT GD gw tk td (tk ++ td)) := HW.out.grow hFA.1
          clear HF hFA
          generalize wr = wB at *
          obtain ⟨adf, cf, rfl⟩ := HB.out.val
          obtain ⟨m, hm⟩ : ∃ m, (frsP l tk).length = m := ⟨_, rfl⟩
          have HM : Hid ((frsP l tk).length = m) := hm
          have hm8 : m ≤ 8 := by rw [← hm]; exact Nat.le_trans (frFrom_len _ _ _) h8
          rw [hm] at HB
          rw [hm]
          clear hm
          have hji : ¬ ((l.length : Nat) : Int) < (l.length : Int) := by omega
          go_upto_if 68 with fail
          go_cut [11] from 66 to 77 (fun tv W => ∃ ts, TWr W GD tv ts ∧ PW w W GT GD gw tk td (tk ++ td) ∧ ((frsP l tk = [] ∧ ts = []) ∨ (frsP l tk ≠ [] ∧ ∃ e, TmA ((frsP l tk).map (·.2)) ts e ∧ e.1 = 0)))
          case first =>
            by_cases hm0 : m = 0
            · subst hm0
              go_wp2_with fail
              go_meet
              case rel => exact ⟨[], TWr.nil _ _, HWB.out, .inl ⟨List.eq_nil_of_length_eq_zero HM.out, rfl⟩⟩
            · have hmp : (0 : Int) < (m : Int) := by omega
              have hne : Hid (frsP l tk ≠ []) := (fun e => by have h9 := HM.out; rw [e] at h9; simp at h9; omega : frsP l tk ≠ [])
              have HBT := BusTimes_any (wB.alloc (.cells #[.int .i64 0, .int .i64 0] 30)) ((frsP l tk).map (·.2)) (.slice adf m cf) ((HB.out.row).below (below_new _ _))
              have HFb : Hid (FB wB (wB.alloc (.cells #[.int .i64 0, .int .i64 0] 30)) wB.heap.size) := FB.start wB
              go_upto_region 17 with (go_at_call 61; refine HBT.mono ?_; rintro r w5 ⟨ts, e, tv5, hta, rfl, hrow5, hb5, hn5⟩; obtain ⟨z1, z2⟩ := e; dsimp only at *; have H5 : Hid (FB wB w5 wB.heap.size) := HFb.out.grow hb5; have H6 : Hid (TmA ((frsP l tk).map (·.2)) ts (z1, z2) ∧ RowSl nuV w5 ts tv5 ∧ NewSl (wB.heap.size + 1) tv5) := ⟨hta, hrow5, hn5.mono (by rw [World.size_alloc]; exact Nat.le_refl _)⟩; obtain ⟨q0, q1, qf0, qf1, ql⟩ := H5.out.res2; clear hb5 hta hrow5 hn5 HBT HFb)
              have HWS : Hid (PW w ((w5.setCell ⟨wB.heap.size, 0, none⟩ (.int .i64 z1)).setCell ⟨wB.heap.size, 1, none⟩ (.int .i64 z2)) GT GD gw tk td (tk ++ td)) := HWB.out.grow (H5.out.set _ _)
              by_cases hz : z1 = 0
              · subst hz
                go_wp2_with fail
                go_meet
                case rel =>
                  have hgd := HWB.out.pt.ltD
                  have h9 : TWr w5 wB.heap.size tv5 ts := ⟨H6.out.2.1, fun a n c e => by have := H6.out.2.2 a n c e; omega⟩
                  exact ⟨ts, ⟨((h9.setD 0 _).setD 1 _).1, fun a n c e => by have := H6.out.2.2 a n c e; omega⟩, HWS.out, .inr ⟨hne.out, _, H6.out.1, rfl⟩⟩
              · have hz1 : (z1 != 0) = true := by simpa using hz
                have HN : Hid (z1 ≠ 0) := hz
                clear hz
                go_upto_region 18 with fail
                go_cut [2] from 66 to 77 (fun v W => v = .slice none 0 0 ∧ W.heap[w.heap.size]? = some (.cells #[.int .i64 13, .int .i64 0] 30 (0, 0)) ∧ Below w.heap.size w W)
                case first =>
                  go_wp2_with (go_at_call 41; refine (F_any _ 13 0).mono ?_; rintro r w8 ⟨rfl, hb8⟩; have H8 : Hid (FB w w8 w.heap.size) := HWS.out.pt.fb.grow hb8; obtain ⟨p0, p1, pf0, pf1, pl⟩ := H8.out.res2; clear hb8)
                  go_meet
                  case rel => exact ⟨rfl, set_two H8.out.res, H8.out.set _ _⟩
                case rest =>
                  obtain ⟨rfl, hq1, hq2⟩ := hcut
                  have HQ : Hid (wc.heap[w.heap.size]? = some (.cells #[.int .i64 13, .int .i64 0] 30 (0, 0)) ∧ Below w.heap.size w wc) := ⟨hq1, hq2⟩
                  clear hq1 hq2
                  rename_i hKr
                  refine hKr _ _ (wp_ret ?_)
                  show bodyPost Tryd.prog Tryd.f26 (RespsPost w l) .ret _ _
                  refine bodyPost_ret (PartTimes_ends (g := w.heap.size) (c := .int .i64 13) (k := .int .i64 0) (v := .slice none 0 0) HQ.out.1 rfl rfl) rfl ?_
                  exact ⟨[], (13, 0), _, .inr ⟨by rw [HZ.out], none, HO.out.2.1.tell none (.stop (told_none hne.out H6.out.1 HN.out)), .inl ⟨rfl, rfl, rfl⟩⟩, rfl, RowSl.nil _ _, HQ.out.2, NewSl.none _ _ _⟩
          case rest =>
            obtain ⟨ts0, htw, hpw, hfr⟩ := hcut
            have HTS : Hid ((frsP l tk = [] ∧ ts0 = []) ∨ (frsP l tk ≠ [] ∧ ∃ e, TmA ((frsP l tk).map (·.2)) ts0 e ∧ e.1 = 0)) := hfr
            have hlen0 : ts0.length = (frsP l tk).length := by
              rcases hfr with ⟨e, rfl⟩ | ⟨-, e, h, h0⟩
              · rw [e]; rfl
              · have h9 := (h.ok h0).2.2
                rwa [List.length_map] at h9
            have HT0 : Hid (TWr wc GD u11 ts0 ∧ PW w wc GT GD gw tk td (tk ++ td) ∧ TDs l tk td ts0 0 td ts0) := ⟨htw, hpw, TDs.start hlen0⟩
            clear htw hpw hfr hlen0 HB HWB HW HM
            go_wp2_with fail
            go_loopw [11, 80] (fun tv iv wr => ∃ (j : Nat) (tq ts : List Int), j ≤ l.length ∧ iv = .int .i64 (j : Int) ∧ TWr wr GD tv ts ∧ PW w wr GT GD gw tk tq (tk ++ td) ∧ TDs l tk td ts0 j tq ts) (fun _ iv _ => l.length - (intOf iv).toNat)
            case atStart => exact ⟨0, td, ts0, Nat.zero_le _, rfl, HT0.out⟩
            case round =>
              obtain ⟨j, tq, ts, hj, rfl, htw, hpw, htd⟩ := hrel
              have HT : Hid (TWr wr GD u11 ts ∧ PW w wr GT GD gw tk tq (tk ++ td) ∧ TDs l tk td ts0 j tq ts) := ⟨htw, hpw, htd⟩
              clear HT0 htw hpw htd
              by_cases hjl : j < l.length
              · obtain ⟨x, hx, -⟩ := drop_at hjl
                obtain ⟨y0, y1, y2, y3, y4, y5, y6⟩ := pa7_at (fun q u hq => below_cell HT.out.2.1.pt.fb.bel (HRow.out q u hq)) hx
                have lb : b < wr.heap.size := World.block_lt_of_cell? _ _ y0
                have hji : (j : Int) < (l.length : Int) := by omega
                have hfr := HOK.out.at_ j x hx
                have HX : Hid (l[j]? = some x) := hx
                have HZ0 : Hid (x.fr = -1 → td.getD j 0 = 0) := HO.out.2.2.2 j x hx
                clear hx
                obtain ⟨co, fr, se, cx, t, d, p⟩ := x
                obtain ⟨-, ⟨se1, se2⟩, -, -, -, -, -, hfr⟩ := hfr
                dsimp only at y0 y1 y2 y3 y4 y5 y6 hfr se1 se2
                by_cases hf : fr = -1
                · have hs : se = 0 := by omega
                  subst hs hf
                  clear hfr
                  go_wp2_with fail
                  exact ⟨⟨j + 1, tq, ts, by omega, by simp, HT.out.1.grow (below_new _ _), HT.out.2.1.grow (below_new _ _), HT.out.2.2.stay HX.out HL.out.2 rfl (HZ0.out rfl)⟩, by simp [intOf]; omega⟩
                · obtain ⟨fn, hfn⟩ : ∃ fn : Nat, fr = (fn : Int) := ⟨fr.toNat, by omega⟩
                  subst hfn
                  have hfl : fn < l.length := by omega
                  have hfi : (fn : Int) < (l.length : Int) := by omega
                  obtain ⟨tv0, htv⟩ : ∃ tv0, tk[fn]? = some tv0 := ⟨_, List.getElem?_eq_getElem (by rw [HL.out.1]; exact hfl)⟩
                  have hgd : tk.getD (fn : Int).toNat 0 = tv0 := by rw [Int.toNat_natCast, List.getD_eq_getElem?_getD, htv]; rfl
                  have hql := HT.out.2.2.len HL.out.2 hj
                  obtain ⟨xl, -⟩ := HT.out.2.1.pt.cT htv
                  obtain ⟨xd, xf⟩ := HT.out.2.1.pt.cD (i := j) (List.getElem?_eq_getElem (by rw [hql]; exact hjl))
                  generalize tq[j]'_ = told at xd
                  have lG := World.block_lt_of_cell? _ _ xl
                  have lD := World.block_lt_of_cell? _ _ xd
                  have HP6 : Hid (PW w ((wr.setCell ⟨GD, j, none⟩ (.int .i64 tv0)).alloc (.cells #[.int .i64 co, .int .i64 (fn : Int), .int .i64 se, .int .i64 cx, .int .i64 t, .int .i64 d, .int .i64 p] 53)) GT GD gw tk (tq.set j tv0) (tk ++ td)) := (HT.out.2.1.setD j tv0).grow (below_new _ _)
                  have HT6 : Hid (TWr ((wr.setCell ⟨GD, j, none⟩ (.int .i64 tv0)).alloc (.cells #[.int .i64 co, .int .i64 (fn : Int), .int .i64 se, .int .i64 cx, .int .i64 t, .int .i64 d, .int .i64 p] 53)) GD u11 ts) := (HT.out.1.setD j _).grow (below_new _ _)
                  clear hfr htv
                  by_cases hs : se = 0
                  · have HD : Hid (TDs l tk td ts0 (j + 1) (tq.set j tv0) ts) := by
                      have h9 := HT.out.2.2.from HX.out HL.out.2 hf hs
                      dsimp only at h9
                      rwa [hgd] at h9
                    clear hgd HX HZ0
                    subst hs
                    go_wp2_with fail
                    exact ⟨⟨j + 1, _, ts, by omega, by simp, HT6.out, HP6.out, HD.out⟩, by simp [intOf]; omega⟩
                  · have hsg : 0 < se := by omega
                    obtain ⟨t1, r1, hts, hd1⟩ := HT.out.2.2.sent HX.out HL.out.2 hf hs tv0
                    subst hts
                    have HD : Hid (TDs l tk td ts0 (j + 1) ((tq.set j tv0).set j t1) r1) := hd1
                    obtain ⟨⟨ad9, tc, he9, -, hcap9, hr9⟩, hn9⟩ := HT6.out
                    subst he9
                    rcases hr9 with h | ⟨tb, to', rfl, hr9⟩
                    · cases h
                    have s0 := nu_at hr9 (j := 0) (z := t1) rfl
                    rw [Nat.add_zero] at s0
                    rw [List.length_cons] at HT6 hcap9
                    rw [List.length_cons]
                    have htb : tb ≠ GD := hn9 _ _ _ rfl
                    have d9 := (HP6.out.pt.cD (i := j) (z := tv0) (List.getElem?_set_self (by rw [hql]; exact hjl)))
                    have HTL : Hid (TWr ((wr.setCell ⟨GD, j, none⟩ (.int .i64 tv0)).alloc (.cells #[.int .i64 co, .int .i64 (fn : Int), .int .i64 se, .int .i64 cx, .int .i64 t, .int .i64 d, .int .i64 p] 53)) GD (.slice (if tc = 1 then some ⟨tb, to', none⟩ else some ⟨tb, to' + 1, none⟩) r1.length (tc - 1)) r1) := by
                      have h9 := HT6.out.tail (by simp)
                      show TWr _ _ _ _
                      simpa using h9
                    clear hgd HX HZ0 hd1 hr9 hn9 hql HT HT6
                    go_upto_region 25 with fail
                    clear y0 y1 y2 y3 y4 y5 y6 lb xl xd xf lG lD
                    generalize (wr.setCell ⟨GD, j, none⟩ (.int .i64 tv0)).alloc (.cells #[.int .i64 co, .int .i64 (fn : Int), .int .i64 se, .int .i64 cx, .int .i64 t, .int .i64 d, .int .i64 p] 53) = w6 at *
                    obtain ⟨d0, df⟩ := d9
                    have ld := World.block_lt_of_cell? _ _ d0
                    have HP7 : Hid (PW w (w6.setCell ⟨GD, j, none⟩ (.int .i64 t1)).drew GT GD gw tk ((tq.set j tv0).set j t1) (tk ++ td)) := (HP6.out.setD j t1).grow (Below.refl _ _).drew
                    have HT7 : Hid (TWr (w6.setCell ⟨GD, j, none⟩ (.int .i64 t1)).drew GD (.slice (if tc = 1 then some ⟨tb, to', none⟩ else some ⟨tb, to' + 1, none⟩) r1.length (tc - 1)) r1) := (HTL.out.setD j _).grow (Below.refl _ _).drew
                    have s1 : (w6.setCell ⟨GD, j, none⟩ (.int .i64 t1)).drew.cell? ⟨tb, to', none⟩ = some (.int .i64 t1) := by
                      show (w6.setCell ⟨GD, j, none⟩ (.int .i64 t1)).cell? _ = _
                      rw [cell_other htb]
                      exact s0
                    have hr0 : (0 : Int) < ((r1.length + 1 : Nat) : Int) := by omega
                    have hr1 : (1 : Int) ≤ ((r1.length + 1 : Nat) : Int) := by omega
                    have hr2 : 1 ≤ r1.length + 1 := by omega
                    have hr4 : (1 : Int) ≤ (r1.length : Int) + 1 := by omega
                    have hr5 : (0 : Int) < (r1.length : Int) + 1 := by omega
                    have hr3 : 1 ≤ tc := by omega
                    refine wp_region_noPanic ?_
                    refine wp_region_held_drew (S := fun w' => w'.cell? ⟨tb, to', none⟩ = some (.int .i64 t1)) (by kernel_rfl) s0 (fun hHeld => ?_)
                    refine take_at (i := 0) (n := 99) (v := ?_) rfl rfl (by kernel_rfl) (by kernel_rfl) (by kernel_rfl) (fun _ _ _ h => h) (Or.inl ⟨by rfl, ?_⟩) (by assumption) ?_
                    rotate_left 1
                    · intro wz hSw
                      have s9 := hSw
                      first | (go_simp; done) | (go_simp; with_reducible rfl)
                    simp only [List.set_cons_zero, List.set_cons_succ]
                    refine take_at (i := 1) (n := 100) (v := ?_) rfl rfl (by kernel_rfl) (by kernel_rfl) (by kernel_rfl) (fun _ _ _ h => h) (Or.inl ⟨by rfl, ?_⟩) (by assumption) ?_
                    rotate_left 1
                    · intro wz hSw
                      have s9 := hSw
                      first | (go_simp; done) | (go_simp; with_reducible rfl)
                    simp only [List.set_cons_zero, List.set_cons_succ]
                    refine take_at (i := 2) (n := 101) (v := ?_) rfl rfl (by kernel_rfl) (by kernel_rfl) (by kernel_rfl) (fun _ _ _ h => h) (Or.inl ⟨by rfl, ?_⟩) (by assumption) ?_
                    rotate_left 1
                    · intro wz hSw
                      have s9 := hSw
                      first | (go_simp; done) | (go_simp; with_reducible rfl)
                    simp only [List.set_cons_zero, List.set_cons_succ]
                    refine take_at (i := 3) (n := 102) (v := ?_) rfl rfl (by kernel_rfl) (by kernel_rfl) (by kernel_rfl) (fun _ _ _ h => h) (Or.inl ⟨by rfl, ?_⟩) (by assumption) ?_
                    rotate_left 1
                    · intro wz hSw
                      have s9 := hSw
                      first | (go_simp; done) | (go_simp; with_reducible rfl)
                    simp only [List.set_cons_zero, List.set_cons_succ]
                    refine take_at (i := 4) (n := 103) (v := ?_) rfl rfl (by kernel_rfl) (by kernel_rfl) (by kernel_rfl) (fun _ _ _ h => h) (Or.inl ⟨by rfl, ?_⟩) (by assumption) ?_
                    rotate_left 1
                    · intro wz hSw
                      have s9 := hSw
                      first | (go_simp; done) | (go_simp; with_reducible rfl)
                    simp only [List.set_cons_zero, List.set_cons_succ]
                    refine take_at (i := 5) (n := 104) (v := ?_) rfl rfl (by kernel_rfl) (by kernel_rfl) (by kernel_rfl) (fun _ _ _ h => h) (Or.inl ⟨by rfl, ?_⟩) (by assumption) ?_
                    rotate_left 1
                    · intro wz hSw
                      have s9 := hSw
                      first | (go_simp; done) | (go_simp; with_reducible rfl)
                    simp only [List.set_cons_zero, List.set_cons_succ]
                    refine take_at (i := 6) (n := 105) (v := ?_) rfl rfl (by kernel_rfl) (by kernel_rfl) (by kernel_rfl) (fun _ _ _ h => h) (Or.inl ⟨by rfl, ?_⟩) (by assumption) ?_
                    rotate_left 1
                    · intro wz hSw
                      have s9 := hSw
                      first | (go_simp; done) | (go_simp; with_reducible rfl)
                    simp only [List.set_cons_zero, List.set_cons_succ]
                    refine take_at (i := 7) (n := 106) (v := ?_) rfl rfl (by kernel_rfl) (by kernel_rfl) (by kernel_rfl) (fun _ _ _ h => h) (Or.inl ⟨by rfl, ?_⟩) (by assumption) ?_
                    rotate_left 1
                    · intro wz hSw
                      have s9 := hSw
                      first | (go_simp; done) | (go_simp; with_reducible rfl)
                    simp only [List.set_cons_zero, List.set_cons_succ]
                    refine wpAnyH_ready (rs := [8]) (by kernel_rfl) (by simp) ?_
                    refine AllReadyH.cons rfl (fun K hK => ?_) AllReadyH.nil
                    go_simp
                    refine hK.out _ _ s1 (fun hHeld => ?_)
                    clear hK K
                    try simp only [List.set_cons_zero, List.set_cons_succ]
                    refine take_at (i := 9) (n := 11) (v := ?_) rfl rfl (by kernel_rfl) (by kernel_rfl) (by kernel_rfl) (fun _ _ _ h => h) (Or.inl ⟨by rfl, ?_⟩) (by assumption) ?_
                    rotate_left 1
                    · intro wz hSw
                      have s9 := hSw
                      first | (go_simp; done) | (go_simp; with_reducible rfl)
                    simp only [List.set_cons_zero, List.set_cons_succ]
                    refine wpAnyH_done (by kernel_rfl) ?_ _
                    refine NoPanic.normal ?_
                    clear hHeld
                    go_wp2_with fail
                    exact ⟨⟨j + 1, _, r1, by omega, by simp, HT7.out, HP7.out, HD.out⟩, by simp [intOf]; omega⟩
              · have hje : j = l.length := by omega
                subst hje
                have htq := HT.out.2.2.done HL.out.2
                subst htq
                obtain ⟨late, hla⟩ : ∃ late, toldL tk l ts0 = late := ⟨_, rfl⟩
                have HLZ : Hid (∀ (i : Nat) (x : Pa), l[i]? = some x → x.fr = -1 → late.getD i 0 = 0) := by
                  rw [← hla]
                  exact (fun i x hx h0 => toldL_zero l ts0 i x hx h0 : ∀ (i : Nat) (x : Pa), l[i]? = some x → x.fr = -1 → (toldL tk l ts0).getD i 0 = 0)
                have HLate : Hid (LatR l tk (some late)) := by
                  rw [← hla]
                  exact told_lat HTS.out
                have HPL : Hid (PW w wr GT GD gw tk late (tk ++ td)) := by
                  rw [← hla]
                  exact HT.out.2.1
                have HLT : Hid (LtOk l late) := LatR.ok HOK.out HO.out.2.1.ok HLate.out
                have hji : ¬ ((l.length : Nat) : Int) < (l.length : Int) := by omega
                clear hla HT HTS
                go_wp2_with fail
                clear hji
                go_loopw [110] (fun iv wr => ∃ (j : Nat) (tq : List Int), j ≤ l.length ∧ iv = .int .i64 (j : Int) ∧ PW w wr GT GD gw tq late (tk ++ td) ∧ PDs l late tk j tq) (fun iv _ => l.length - (intOf iv).toNat)
                case atStart => exact ⟨0, tk, Nat.zero_le _, rfl, HPL.out, PDs.start⟩
                case round =>
                  obtain ⟨j, tq, hj, rfl, hpw, hpd⟩ := hrel
                  have HT : Hid (PW w wr GT GD gw tq late (tk ++ td) ∧ PDs l late tk j tq) := ⟨hpw, hpd⟩
                  clear HPL hpw hpd
                  by_cases hjl : j < l.length
                  · obtain ⟨x, hx, -⟩ := drop_at hjl
                    obtain ⟨y0, y1, y2, y3, y4, y5, y6⟩ := pa7_at (fun q u hq => below_cell HT.out.1.pt.fb.bel (HRow.out q u hq)) hx
                    have lb : b < wr.heap.size := World.block_lt_of_cell? _ _ y0
                    have hji : (j : Int) < (l.length : Int) := by omega
                    have HX : Hid (l[j]? = some x) := hx
                    obtain ⟨lj, hlj⟩ : ∃ lj, late[j]? = some lj := ⟨_, List.getElem?_eq_getElem (by rw [HLT.out.1]; exact hjl)⟩
                    have HLJ : Hid (late[j]? = some lj) := hlj
                    clear hx hlj
                    obtain ⟨co, fr, se, cx, t, d, p⟩ := x
                    dsimp only at y0 y1 y2 y3 y4 y5 y6
                    have HPX : Hid ((wr.alloc (.cells #[.int .i64 co, .int .i64 fr, .int .i64 se, .int .i64 cx, .int .i64 t, .int .i64 d, .int .i64 p] 53)).heap[wr.heap.size]? = some (.cells #[.int .i64 co, .int .i64 fr, .int .i64 se, .int .i64 cx, .int .i64 t, .int .i64 d, .int .i64 p] 53 (0, 0))) := heap_alloc_new _ _
                    have HPW : Hid (PW w (wr.alloc (.cells #[.int .i64 co, .int .i64 fr, .int .i64 se, .int .i64 cx, .int .i64 t, .int .i64 d, .int .i64 p] 53)) GT GD gw tq late (tk ++ td)) := HT.out.1.grow (below_new _ _)
                    have HTA0 : Hid (TaA (wr.alloc (.cells #[.int .i64 co, .int .i64 fr, .int .i64 se, .int .i64 cx, .int .i64 t, .int .i64 d, .int .i64 p] 53)) (wr.alloc (.cells #[.int .i64 co, .int .i64 fr, .int .i64 se, .int .i64 cx, .int .i64 t, .int .i64 d, .int .i64 p] 53)) (othD j ⟨co, fr, se, cx, t, d, p⟩ late (l.take 0) 0) (.slice none 0 0)) := TaA.start _
                    go_upto_region 30 with fail
                    clear y0 y1 y2 y3 y4 y5 y6 lb
                    generalize wr.alloc (.cells #[.int .i64 co, .int .i64 fr, .int .i64 se, .int .i64 cx, .int .i64 t, .int .i64 d, .int .i64 p] 53) = wx at *
                    generalize wr.heap.size = gx at *
                    go_wp2_with fail
                    go_loopw [17, 117] (fun ov iv W => ∃ k : Nat, k ≤ l.length ∧ iv = .int .i64 (k : Int) ∧ Hid (TaA wx W (othD j ⟨co, fr, se, cx, t, d, p⟩ late (l.take k) 0) ov)) (fun _ iv _ => l.length - (intOf iv).toNat)
                    case atStart => exact ⟨0, Nat.zero_le _, rfl, HTA0⟩
                    case round =>
                      obtain ⟨k, hk, rfl, HA⟩ := hrel
                      generalize wr = wK at *
                      clear HTA0
                      obtain ⟨xs, -, -⟩ := cells_of (l := [_, _, _, _, _, _, _]) ((HA.out.1.block _ (Array.getElem?_eq_some_iff.1 HPX.out).1).trans HPX.out)
                      have x0 := xs 0 _ rfl
                      have x3 := xs 3 _ rfl
                      have x4 := xs 4 _ rfl
                      have x5 := xs 5 _ rfl
                      have x6 := xs 6 _ rfl
                      have lx : gx < wK.heap.size := World.block_lt_of_cell? _ _ x0
                      clear xs
                      by_cases hkl : k < l.length
                      · obtain ⟨y, hy, -⟩ := drop_at hkl
                        obtain ⟨y0, y1, y2, y3, y4, y5, y6⟩ := pa7_at (fun q u hq => below_cell (below_seq HPW.out.pt.fb.bel HA.out.1) (HRow.out q u hq)) hy
                        have lb : b < wK.heap.size := World.block_lt_of_cell? _ _ y0
                        have hki : (k : Int) < (l.length : Int) := by omega
                        have HSN : Hid (othD j ⟨co, fr, se, cx, t, d, p⟩ late (l.take (k + 1)) 0 = othD j ⟨co, fr, se, cx, t, d, p⟩ late (l.take k) 0 ++ (if k ≠ j ∧ y.co = co ∧ p ≤ y.p then [taD y.c y.t (late.getD k 0)] else [])) := othD_snoc hy
                        clear hy
                        obtain ⟨yc, yf, ys, yx, yt, yd, yp⟩ := y
                        dsimp only at y0 y1 y2 y3 y4 y5 y6 HSN
                        have HG : Hid (TaA wx (wK.alloc (.cells #[.int .i64 yc, .int .i64 yf, .int .i64 ys, .int .i64 yx, .int .i64 yt, .int .i64 yd, .int .i64 yp] 53)) (othD j ⟨co, fr, se, cx, t, d, p⟩ late (l.take k) 0) u17) := HA.out.grow (below_new _ _)
                        have hxne : ¬ gx = wK.heap.size := by omega
                        by_cases h1 : k = j
                        · have b1 : ((k : Int) != (j : Int)) = false := by simp [h1]
                          have HN : Hid (TaA wx (wK.alloc (.cells #[.int .i64 yc, .int .i64 yf, .int .i64 ys, .int .i64 yx, .int .i64 yt, .int .i64 yd, .int .i64 yp] 53)) (othD j ⟨co, fr, se, cx, t, d, p⟩ late (l.take (k + 1)) 0) u17) := by
                            show TaA _ _ _ _
                            rw [HSN.out, if_neg (fun h => h.1 h1), List.append_nil]
                            exact HG.out
                          clear h1 HA HG HSN
                          go_wp2_with fail
                          exact ⟨⟨k + 1, by omega, by simp, HN⟩, by simp [intOf]; omega⟩
                        have b1 : ((k : Int) != (j : Int)) = true := by simp; omega
                        by_cases h2 : yc = co
                        rotate_left 1
                        · have b2 : (yc == co) = false := by simpa using h2
                          have HN : Hid (TaA wx (wK.alloc (.cells #[.int .i64 yc, .int .i64 yf, .int .i64 ys, .int .i64 yx, .int .i64 yt, .int .i64 yd, .int .i64 yp] 53)) (othD j ⟨co, fr, se, cx, t, d, p⟩ late (l.take (k + 1)) 0) u17) := by
                            show TaA _ _ _ _
                            rw [HSN.out, if_neg (fun h => h2 h.2.1), List.append_nil]
                            exact HG.out
                          clear h1 h2 HA HG HSN
                          go_wp2_with fail
                          exact ⟨⟨k + 1, by omega, by simp, HN⟩, by simp [intOf]; omega⟩
                        have b2 : (yc == co) = true := by simpa using h2
                        by_cases h3 : p ≤ yp
                        rotate_left 1
                        · have b3 : decide (p ≤ yp) = false := decide_eq_false h3
                          have HN : Hid (TaA wx (wK.alloc (.cells #[.int .i64 yc, .int .i64 yf, .int .i64 ys, .int .i64 yx, .int .i64 yt, .int .i64 yd, .int .i64 yp] 53)) (othD j ⟨co, fr, se, cx, t, d, p⟩ late (l.take (k + 1)) 0) u17) := by
                            show TaA _ _ _ _
                            rw [HSN.out, if_neg (fun h => h3 h.2.2), List.append_nil]
                            exact HG.out
                          clear h1 h2 h3 HA HG HSN
                          go_wp2_with fail
                          exact ⟨⟨k + 1, by omega, by simp, HN⟩, by simp [intOf]; omega⟩
                        have b3 : decide (p ≤ yp) = true := decide_eq_true h3
                        obtain ⟨lk, hlk⟩ : ∃ lk, late[k]? = some lk := ⟨_, List.getElem?_eq_getElem (by rw [HLT.out.1]; exact hkl)⟩
                        have HS2 : Hid (othD j ⟨co, fr, se, cx, t, d, p⟩ late (l.take (k + 1)) 0 = othD j ⟨co, fr, se, cx, t, d, p⟩ late (l.take k) 0 ++ [(⟨⟨#[]⟩, yx, yt, 0, lk, 0, 0⟩ : Ta)]) := by
                          show _ = _
                          rw [HSN.out, if_pos ⟨h1, h2, h3⟩, List.getD_eq_getElem?_getD, hlk]
                          rfl
                        have HPK : Hid (PT w (wK.alloc (.cells #[.int .i64 yc, .int .i64 yf, .int .i64 ys, .int .i64 yx, .int .i64 yt, .int .i64 yd, .int .i64 yp] 53)) GT GD tq late) := (HPW.out.pt.grow HA.out.1).grow (below_new _ _)
                        have ck := (HPK.out.cD hlk).1
                        have HP9 : Hid (PtAt (wK.alloc (.cells #[.int .i64 yc, .int .i64 yf, .int .i64 ys, .int .i64 yx, .int .i64 yt, .int .i64 yd, .int .i64 yp] 53)) wK.heap.size GD k ⟨yc, yf, ys, yx, yt, yd, yp⟩ lk) := ⟨heap_alloc_new _ _, ck⟩
                        clear h1 h2 h3 HA HSN hlk ck
                        go_upto_region 35 with fail
                        clear y0 y1 y2 y3 y4 y5 y6 lb b1 b2 b3 x0 x3 x4 x5 x6 lx hxne
                        generalize wK.alloc (.cells #[.int .i64 yc, .int .i64 yf, .int .i64 ys, .int .i64 yx, .int .i64 yt, .int .i64 yd, .int .i64 yp] 53) = w9 at *
                        generalize wK.heap.size = gy at *
                        obtain ⟨ado, cdo, rfl⟩ := HG.out.val
                        obtain ⟨no, hno⟩ : ∃ no, (othD j ⟨co, fr, se, cx, t, d, p⟩ late (l.take k) 0).length = no := ⟨_, rfl⟩
                        have HNO : Hid ((othD j ⟨co, fr, se, cx, t, d, p⟩ late (l.take k) 0).length = no) := hno
                        have hno8 : no ≤ 8 := by rw [← hno]; exact Nat.le_trans (othD_len _ _) (by rw [List.length_take]; omega)
                        rw [hno] at HG
                        rw [hno]
                        clear hno
                        obtain ⟨e3, e4, el⟩ := HP9.out.cells3
                        dsimp only at e3 e4 el
                        have lg := World.block_lt_of_cell? _ _ e3
                        have lG := World.block_lt_of_cell? _ _ el
                        clear e3 e4 el
                        refine wp_region_noPanic ?_
                        refine wp_region_held_drew (S := fun w' => w'.cell? ⟨gy, 3, none⟩ = some (.int .i64 yx) ∧ w'.cell? ⟨gy, 4, none⟩ = some (.int .i64 yt) ∧ w'.cell? ⟨GD, k, none⟩ = some (.int .i64 lk)) (by kernel_rfl) HP9.out.cells3 (fun hHeld => ?_)
                        refine take_at (i := 0) (n := 139) (v := ?_) rfl rfl (by kernel_rfl) (by kernel_rfl) (by kernel_rfl) (fun _ _ _ h => h) (Or.inl ⟨by rfl, ?_⟩) (by assumption) ?_
                        rotate_left 1
                        · intro wz hSw
                          obtain ⟨s3, s4, sl⟩ := hSw
                          first | (go_simp; done) | (go_simp; with_reducible rfl)
                        simp only [List.set_cons_zero, List.set_cons_succ]
                        refine take_at (i := 1) (n := 140) (v := ?_) rfl rfl (by kernel_rfl) (by kernel_rfl) (by kernel_rfl) (fun _ _ _ h => h) (Or.inl ⟨by rfl, ?_⟩) (by assumption) ?_
                        rotate_left 1
                        · intro wz hSw
                          obtain ⟨s3, s4, sl⟩ := hSw
                          first | (go_simp; done) | (go_simp; with_reducible rfl)
                        simp only [List.set_cons_zero, List.set_cons_succ]
                        refine take_at (i := 2) (n := 141) (v := ?_) rfl rfl (by kernel_rfl) (by kernel_rfl) (by kernel_rfl) (fun _ _ _ h => h) (Or.inl ⟨by rfl, ?_⟩) (by assumption) ?_
                        rotate_left 1
                        · intro wz hSw
                          obtain ⟨s3, s4, sl⟩ := hSw
                          first | (go_simp; done) | (go_simp; with_reducible rfl)
                        simp only [List.set_cons_zero, List.set_cons_succ]
                        refine take_at (i := 3) (n := 142) (v := ?_) rfl rfl (by kernel_rfl) (by kernel_rfl) (by kernel_rfl) (fun _ _ _ h => h) (Or.inl ⟨by rfl, ?_⟩) (by assumption) ?_
                        rotate_left 1
                        · intro wz hSw
                          obtain ⟨s3, s4, sl⟩ := hSw
                          first | (go_simp; done) | (go_simp; with_reducible rfl)
                        simp only [List.set_cons_zero, List.set_cons_succ]
                        refine take_at (i := 4) (n := 143) (v := ?_) rfl rfl (by kernel_rfl) (by kernel_rfl) (by kernel_rfl) (fun _ _ _ h => h) (Or.inl ⟨by rfl, ?_⟩) (by assumption) ?_
                        rotate_left 1
                        · intro wz hSw
                          obtain ⟨s3, s4, sl⟩ := hSw
                          first | (go_simp; done) | (go_simp; with_reducible rfl)
                        simp only [List.set_cons_zero, List.set_cons_succ]
                        refine take_at (i := 5) (n := 144) (v := ?_) rfl rfl (by kernel_rfl) (by kernel_rfl) (by kernel_rfl) (fun _ _ _ h => h) (Or.inl ⟨by rfl, ?_⟩) (by assumption) ?_
                        rotate_left 1
                        · intro wz hSw
                          obtain ⟨s3, s4, sl⟩ := hSw
                          first | (go_simp; done) | (go_simp; with_reducible rfl)
                        simp only [List.set_cons_zero, List.set_cons_succ]
                        refine take_at (i := 6) (n := 145) (v := ?_) rfl rfl (by kernel_rfl) (by kernel_rfl) (by kernel_rfl) (fun _ _ _ h => h) (Or.inl ⟨by rfl, ?_⟩) (by assumption) ?_
                        rotate_left 1
                        · intro wz hSw
                          obtain ⟨s3, s4, sl⟩ := hSw
                          first | (go_simp; done) | (go_simp; with_reducible rfl)
                        simp only [List.set_cons_zero, List.set_cons_succ]
                        refine take_at (i := 7) (n := 146) (v := ?_) rfl rfl (by kernel_rfl) (by kernel_rfl) (by kernel_rfl) (fun _ _ _ h => h) (Or.inl ⟨by rfl, ?_⟩) (by assumption) ?_
                        rotate_left 1
                        · intro wz hSw
                          obtain ⟨s3, s4, sl⟩ := hSw
                          first | (go_simp; done) | (go_simp; with_reducible rfl)
                        simp only [List.set_cons_zero, List.set_cons_succ]
                        refine take_at (i := 8) (n := 147) (v := ?_) rfl rfl (by kernel_rfl) (by kernel_rfl) (by kernel_rfl) (fun _ _ _ h => h) (Or.inl ⟨by rfl, ?_⟩) (by assumption) ?_
                        rotate_left 1
                        · intro wz hSw
                          obtain ⟨s3, s4, sl⟩ := hSw
                          first | (go_simp; done) | (go_simp; with_reducible rfl)
                        simp only [List.set_cons_zero, List.set_cons_succ]
                        refine take_at (i := 9) (n := 148) (v := ?_) rfl rfl (by kernel_rfl) (by kernel_rfl) (by kernel_rfl) (fun _ _ _ h => h) (Or.inl ⟨by rfl, ?_⟩) (by assumption) ?_
                        rotate_left 1
                        · intro wz hSw
                          obtain ⟨s3, s4, sl⟩ := hSw
                          first | (go_simp; done) | (go_simp; with_reducible rfl)
                        simp only [List.set_cons_zero, List.set_cons_succ]
                        refine wpAnyH_ready (rs := [10]) (by kernel_rfl) (by simp) ?_
                        refine AllReadyH.cons rfl (fun K hK => ?_) AllReadyH.nil
                        go_simp
                        have G7 : Hid (TaA wx ((w9.alloc (.cells #[.string ⟨#[]⟩, .int .i64 yx, .int .i64 yt, .int .i64 0, .int .i64 lk, .int .i64 0, .int .i64 0] 27)).drew) (othD j ⟨co, fr, se, cx, t, d, p⟩ late (l.take k) 0) (.slice ado no cdo)) := HG.out.grow (below_new _ _).drew
                        have P7 : Hid (PtAt ((w9.alloc (.cells #[.string ⟨#[]⟩, .int .i64 yx, .int .i64 yt, .int .i64 0, .int .i64 lk, .int .i64 0, .int .i64 0] 27)).drew) gy GD k ⟨yc, yf, ys, yx, yt, yd, yp⟩ lk) := HP9.out.grow (below_new _ _).drew
                        have f7 : ((w9.alloc (.cells #[.string ⟨#[]⟩, .int .i64 yx, .int .i64 yt, .int .i64 0, .int .i64 lk, .int .i64 0, .int .i64 0] 27)).drew).heap[w9.heap.size]? = some (.cells #[.string ⟨#[]⟩, .int .i64 yx, .int .i64 yt, .int .i64 0, .int .i64 lk, .int .i64 0, .int .i64 0] 27 (0, 0)) := heap_alloc_new w9 _
                        have T7 := (HPK.out.grow (below_new w9 (.cells #[.string ⟨#[]⟩, .int .i64 yx, .int .i64 yt, .int .i64 0, .int .i64 lk, .int .i64 0, .int .i64 0] 27)).drew).rd
                        generalize (w9.alloc (.cells #[.string ⟨#[]⟩, .int .i64 yx, .int .i64 yt, .int .i64 0, .int .i64 lk, .int .i64 0, .int .i64 0] 27)).drew = w7 at G7 P7 f7 T7 ⊢
                        refine hK.out _ _ P7.out.cells3 (fun hHeld => ?_)
                        clear hK K
                        try simp only [List.set_cons_zero, List.set_cons_succ]
                        obtain ⟨ad7, c7', w8, hrun, h9, k9⟩ := TaA.push2 G7.out ⟨⟨#[]⟩, yx, yt, 0, lk, 0, 0⟩ f7 (by rw [HNO.out]; omega)
                        rw [HNO.out] at hrun h9
                        have G8 : Hid (TaA wx w8 (othD j ⟨co, fr, se, cx, t, d, p⟩ late (l.take (k + 1)) 0) (.slice ad7 (no + 1) c7')) := by
                          show TaA _ _ _ _
                          rw [HS2.out]
                          exact h9
                        have P8 : Hid (PtAt w8 gy GD k ⟨yc, yf, ys, yx, yt, yd, yp⟩ lk) := P7.out.keep T7 (by decide) (by decide) k9
                        refine wpAnyH_ready (rs := [11]) (by kernel_rfl) (by simp) ?_
                        refine AllReadyH.cons rfl (fun K hK => ?_) AllReadyH.nil
                        refine region_append2 rfl (.tmp 139) (.tmp 149) 22 150 rfl rfl rfl hrun rfl ?_
                        refine hK.out _ _ P8.out.cells3 (fun hHeld => ?_)
                        clear hrun k9 h9
                        clear hK K
                        try simp only [List.set_cons_zero, List.set_cons_succ]
                        simp only [Act.put, List.setIfInBounds_toArray]
                        try simp only [List.set_cons_zero, List.set_cons_succ]
                        refine take_at (i := 12) (n := 17) (v := ?_) rfl rfl (by kernel_rfl) (by kernel_rfl) (by kernel_rfl) (fun _ _ _ h => h) (Or.inl ⟨by rfl, ?_⟩) (by assumption) ?_
                        rotate_left 1
                        · intro wz hSw
                          obtain ⟨s3, s4, sl⟩ := hSw
                          first | (go_simp; done) | (go_simp; with_reducible rfl)
                        simp only [List.set_cons_zero, List.set_cons_succ]
                        refine wpAnyH_done (by kernel_rfl) ?_ _
                        refine NoPanic.normal ?_
                        clear hHeld
                        go_wp2_with fail
                        exact ⟨⟨k + 1, by omega, by simp, G8⟩, by simp [intOf]; omega⟩
                      · have hke : k = l.length := by omega
                        subst hke
                        have hFA := HA.out
                        rw [List.take_length] at hFA
                        obtain ⟨os, hos⟩ : ∃ os, othD j ⟨co, fr, se, cx, t, d, p⟩ late l 0 = os := ⟨_, rfl⟩
                        have hlg : late.getD j 0 = lj := by rw [List.getD_eq_getElem?_getD, HLJ.out]; rfl
                        obtain ⟨rr, hrr⟩ : ∃ rr, wPx l late j ⟨co, fr, se, cx, t, d, p⟩ = rr := ⟨_, rfl⟩
                        have hwr : wOf (askF (cx + 0) os) lj d = rr := by
                          rw [← hrr, ← hos, ← hlg]
                          exact othD_worst (l := l) (late := late) (i := j) (x := ⟨co, fr, se, cx, t, d, p⟩)
                        have HAW := AtWorst_any wK.drew (⟨⟨#[]⟩, cx, t, d, lj, 0, 0⟩ : Ta) os u17 0 (by rw [← hos]; exact Nat.le_trans (othD_len _ _) h8) (by have h9 := own_stands HOK.out HLT.out HX.out; dsimp only at h9; rw [hlg] at h9; exact h9) (by rw [← hos]; exact othD_stands HOK.out HLT.out) (by omega) (by omega) (by rw [← hos]; exact hFA.row.below (Below.refl _ _).drew)
                        unfold Ta.val at HAW
                        dsimp only at HAW
                        rw [hwr] at HAW
                        have HRR : Hid (wPx l late j ⟨co, fr, se, cx, t, d, p⟩ = rr) := hrr
                        have HWK : Hid (PW w wK GT GD gw tq late (tk ++ td)) := HPW.out.grow hFA.1
                        have ck := (HWK.out.pt.cD HLJ.out).1
                        obtain ⟨ado, cdo, rfl⟩ := hFA.val
                        rw [hos] at HAW ⊢
                        have hki : ¬ ((l.length : Nat) : Int) < (l.length : Int) := by omega
                        clear hFA HA hos hlg hrr hwr HPX HPW
                        go_upto_region 37 with fail
                        have lG := World.block_lt_of_cell? _ _ ck
                        refine wp_region_noPanic ?_
                        refine wp_region_held_drew (S := fun w' => w'.cell? ⟨gx, 3, none⟩ = some (.int .i64 cx) ∧ w'.cell? ⟨gx, 4, none⟩ = some (.int .i64 t) ∧ w'.cell? ⟨gx, 5, none⟩ = some (.int .i64 d) ∧ w'.cell? ⟨GD, j, none⟩ = some (.int .i64 lj)) (by kernel_rfl) ⟨x3, x4, x5, ck⟩ (fun hHeld => ?_)
                        refine take_at (i := 0) (n := 152) (v := ?_) rfl rfl (by kernel_rfl) (by kernel_rfl) (by kernel_rfl) (fun _ _ _ h => h) (Or.inl ⟨by rfl, ?_⟩) (by assumption) ?_
                        rotate_left 1
                        · intro wz hSw
                          obtain ⟨s3, s4, s5, sl⟩ := hSw
                          first | (go_simp; done) | (go_simp; with_reducible rfl)
                        simp only [List.set_cons_zero, List.set_cons_succ]
                        refine take_at (i := 1) (n := 153) (v := ?_) rfl rfl (by kernel_rfl) (by kernel_rfl) (by kernel_rfl) (fun _ _ _ h => h) (Or.inl ⟨by rfl, ?_⟩) (by assumption) ?_
                        rotate_left 1
                        · intro wz hSw
                          obtain ⟨s3, s4, s5, sl⟩ := hSw
                          first | (go_simp; done) | (go_simp; with_reducible rfl)
                        simp only [List.set_cons_zero, List.set_cons_succ]
                        refine take_at (i := 2) (n := 154) (v := ?_) rfl rfl (by kernel_rfl) (by kernel_rfl) (by kernel_rfl) (fun _ _ _ h => h) (Or.inl ⟨by rfl, ?_⟩) (by assumption) ?_
                        rotate_left 1
                        · intro wz hSw
                          obtain ⟨s3, s4, s5, sl⟩ := hSw
                          first | (go_simp; done) | (go_simp; with_reducible rfl)
                        simp only [List.set_cons_zero, List.set_cons_succ]
                        refine take_at (i := 3) (n := 155) (v := ?_) rfl rfl (by kernel_rfl) (by kernel_rfl) (by kernel_rfl) (fun _ _ _ h => h) (Or.inl ⟨by rfl, ?_⟩) (by assumption) ?_
                        rotate_left 1
                        · intro wz hSw
                          obtain ⟨s3, s4, s5, sl⟩ := hSw
                          first | (go_simp; done) | (go_simp; with_reducible rfl)
                        simp only [List.set_cons_zero, List.set_cons_succ]
                        refine take_at (i := 4) (n := 156) (v := ?_) rfl rfl (by kernel_rfl) (by kernel_rfl) (by kernel_rfl) (fun _ _ _ h => h) (Or.inl ⟨by rfl, ?_⟩) (by assumption) ?_
                        rotate_left 1
                        · intro wz hSw
                          obtain ⟨s3, s4, s5, sl⟩ := hSw
                          first | (go_simp; done) | (go_simp; with_reducible rfl)
                        simp only [List.set_cons_zero, List.set_cons_succ]
                        refine take_at (i := 5) (n := 157) (v := ?_) rfl rfl (by kernel_rfl) (by kernel_rfl) (by kernel_rfl) (fun _ _ _ h => h) (Or.inl ⟨by rfl, ?_⟩) (by assumption) ?_
                        rotate_left 1
                        · intro wz hSw
                          obtain ⟨s3, s4, s5, sl⟩ := hSw
                          first | (go_simp; done) | (go_simp; with_reducible rfl)
                        simp only [List.set_cons_zero, List.set_cons_succ]
                        refine take_at (i := 6) (n := 158) (v := ?_) rfl rfl (by kernel_rfl) (by kernel_rfl) (by kernel_rfl) (fun _ _ _ h => h) (Or.inl ⟨by rfl, ?_⟩) (by assumption) ?_
                        rotate_left 1
                        · intro wz hSw
                          obtain ⟨s3, s4, s5, sl⟩ := hSw
                          first | (go_simp; done) | (go_simp; with_reducible rfl)
                        simp only [List.set_cons_zero, List.set_cons_succ]
                        refine take_at (i := 7) (n := 159) (v := ?_) rfl rfl (by kernel_rfl) (by kernel_rfl) (by kernel_rfl) (fun _ _ _ h => h) (Or.inl ⟨by rfl, ?_⟩) (by assumption) ?_
                        rotate_left 1
                        · intro wz hSw
                          obtain ⟨s3, s4, s5, sl⟩ := hSw
                          first | (go_simp; done) | (go_simp; with_reducible rfl)
                        simp only [List.set_cons_zero, List.set_cons_succ]
                        refine take_at (i := 8) (n := 160) (v := ?_) rfl rfl (by kernel_rfl) (by kernel_rfl) (by kernel_rfl) (fun _ _ _ h => h) (Or.inl ⟨by rfl, ?_⟩) (by assumption) ?_
                        rotate_left 1
                        · intro wz hSw
                          obtain ⟨s3, s4, s5, sl⟩ := hSw
                          first | (go_simp; done) | (go_simp; with_reducible rfl)
                        simp only [List.set_cons_zero, List.set_cons_succ]
                        refine take_at (i := 9) (n := 161) (v := ?_) rfl rfl (by kernel_rfl) (by kernel_rfl) (by kernel_rfl) (fun _ _ _ h => h) (Or.inl ⟨by rfl, ?_⟩) (by assumption) ?_
                        rotate_left 1
                        · intro wz hSw
                          obtain ⟨s3, s4, s5, sl⟩ := hSw
                          first | (go_simp; done) | (go_simp; with_reducible rfl)
                        simp only [List.set_cons_zero, List.set_cons_succ]
                        refine take_at (i := 10) (n := 162) (v := ?_) rfl rfl (by kernel_rfl) (by kernel_rfl) (by kernel_rfl) (fun _ _ _ h => h) (Or.inl ⟨by rfl, ?_⟩) (by assumption) ?_
                        rotate_left 1
                        · intro wz hSw
                          obtain ⟨s3, s4, s5, sl⟩ := hSw
                          first | (go_simp; done) | (go_simp; with_reducible rfl)
                        simp only [List.set_cons_zero, List.set_cons_succ]
                        refine take_at (i := 11) (n := 163) (v := ?_) rfl rfl (by kernel_rfl) (by kernel_rfl) (by kernel_rfl) (fun _ _ _ h => h) (Or.inl ⟨by rfl, ?_⟩) (by assumption) ?_
                        rotate_left 1
                        · intro wz hSw
                          obtain ⟨s3, s4, s5, sl⟩ := hSw
                          first | (go_simp; done) | (go_simp; with_reducible rfl)
                        simp only [List.set_cons_zero, List.set_cons_succ]
                        refine wpAnyH_ready (rs := [12]) (by kernel_rfl) (by simp) ?_
                        refine AllReadyH.cons rfl (fun K hK => ?_) AllReadyH.nil
                        go_simp
                        go_wp2_with (go_at_call 62; refine HAW.mono ?_; rintro r w4 ⟨rfl, hb4⟩)
                        have H4 : Hid (PW w w4 GT GD gw tq late (tk ++ td)) := (HWK.out.grow (Below.refl _ _).drew).grow hb4
                        refine hK.out _ _ ⟨below_cell hb4 x3, below_cell hb4 x4, below_cell hb4 x5, below_cell hb4 ck⟩ (fun hHeld => ?_)
                        clear hb4 HAW
                        clear hK K
                        try simp only [List.set_cons_zero, List.set_cons_succ]
                        refine take_at (i := 13) (n := 20) (v := ?_) rfl rfl (by kernel_rfl) (by kernel_rfl) (by kernel_rfl) (fun _ _ _ h => h) (Or.inl ⟨by rfl, ?_⟩) (by assumption) ?_
                        rotate_left 1
                        · intro wz hSw
                          obtain ⟨s3, s4, s5, sl⟩ := hSw
                          first | (go_simp; done) | (go_simp; with_reducible rfl)
                        simp only [List.set_cons_zero, List.set_cons_succ]
                        refine wpAnyH_done (by kernel_rfl) ?_ _
                        refine NoPanic.normal ?_
                        clear hHeld
                        clear x0 x3 x4 x5 x6 lx ck lG
                        have hrw : List.length tq = l.length := HT.out.2.len HL.out.1 hj
                        obtain ⟨xc, xf⟩ := H4.out.pt.cT (i := j) (List.getElem?_eq_getElem (by rw [hrw]; exact hjl))
                        generalize tq[j]'_ = old at xc
                        have lT := World.block_lt_of_cell? _ _ xc
                        by_cases hr0 : rr = 0
                        · subst hr0
                          go_upto_region 39 with fail
                          go_cut [2] from 167 to 167 (fun v W => v = .slice none 0 0 ∧ W.heap[w.heap.size]? = some (.cells #[.int .i64 13, .int .i64 0] 30 (0, 0)) ∧ Below w.heap.size w W)
                          case first =>
                            go_wp2_with (go_at_call 41; refine (F_any _ 13 0).mono ?_; rintro r w8 ⟨rfl, hb8⟩; have H8 : Hid (FB w w8 w.heap.size) := H4.out.pt.fb.grow hb8; obtain ⟨p0, p1, pf0, pf1, pl⟩ := H8.out.res2; clear hb8)
                            go_meet
                            case rel => exact ⟨rfl, set_two H8.out.res, H8.out.set _ _⟩
                          case rest =>
                            obtain ⟨rfl, hq1, hq2⟩ := hcut
                            have HQ : Hid (wc.heap[w.heap.size]? = some (.cells #[.int .i64 13, .int .i64 0] 30 (0, 0)) ∧ Below w.heap.size w wc) := ⟨hq1, hq2⟩
                            clear hq1 hq2
                            rename_i hKr
                            refine hKr _ _ (wp_ret ?_)
                            show bodyPost Tryd.prog Tryd.f26 (RespsPost w l) .ret _ _
                            refine bodyPost_ret (PartTimes_ends (g := w.heap.size) (c := .int .i64 13) (k := .int .i64 0) (v := .slice none 0 0) HQ.out.1 rfl rfl) rfl ?_
                            exact ⟨[], (13, 0), _, .inr ⟨by rw [HZ.out], none, HO.out.2.1.tell none (.stop (round_none HOK.out HO.out.2.1.ok HLate.out HX.out HRR.out)), .inl ⟨rfl, rfl, rfl⟩⟩, rfl, RowSl.nil _ _, HQ.out.2, NewSl.none _ _ _⟩
                        · have hrb : (rr == 0) = false := by simpa using hr0
                          have HP5 : Hid (PW w (w4.setCell ⟨GT, j, none⟩ (.int .i64 rr)) GT GD gw (tq.set j rr) late (tk ++ td)) := H4.out.setT j rr
                          have HD5 : Hid (PDs l late tk (j + 1) (tq.set j rr)) := by
                            have h9 := HT.out.2.next HX.out HL.out.1 (by rw [HRR.out]; exact hr0)
                            rw [HRR.out] at h9
                            exact h9
                          clear hr0 hrw
                          go_wp2_with fail
                          exact ⟨⟨j + 1, _, by omega, by simp, HP5.out, HD5.out⟩, by simp [intOf]; omega⟩
                  · have hje : j = l.length := by omega
                    subst hje
                    have hqn : List.length tq = l.length := HT.out.2.len HL.out.1 hj
                    have HST : Hid (StepR l tk (some tq)) := round_step HOK.out HO.out.2.1.ok HLate.out hqn (HT.out.2.done HL.out.1)
                    generalize wr = wP at *
                    obtain ⟨v9, W9, g9, c9, W8, r1, r2, hb9, hg9, hc9, hpw9⟩ := two_app2 HT.out.1.pt hqn HLT.out.1 h1 h8
                    have HN : Hid (PW w W8 GT GD g9 tq late (tq ++ late) ∧ PW w W8 GT GD gw tq late (tk ++ td)) := ⟨hpw9, HT.out.1.grow hb9⟩
                    have HLN : Hid (tq.length = l.length ∧ late.length = l.length ∧ (tq ++ late).length = l.length + l.length ∧ (tk ++ td).length = l.length + l.length) := ⟨hqn, HLT.out.1, by rw [List.length_append, hqn, HLT.out.1], by rw [List.length_append, HL.out.1, HL.out.2]⟩
                    have hji : ¬ ((l.length : Nat) : Int) < (l.length : Int) := by omega
                    clear hb9 hg9 hpw9 hqn HT
                    go_wp2_with (first | (at_builtin; refine append_known rfl (.tmp 175) (.tmp 176) 36 rfl rfl rfl r2 ?_) | (at_builtin; refine append_known rfl (.tmp 173) (.tmp 174) 36 rfl rfl rfl r1 ?_))
                    clear r1 r2 hji
                    go_loopw [21, 179] (fun bv iv wr => ∃ (k : Nat) (bb : Bool), k ≤ l.length + l.length ∧ bv = .bool bb ∧ iv = .int .i64 (k : Int) ∧ Below W8.heap.size W8 wr ∧ Hid (bb = true ↔ (tq ++ late).take k = (tk ++ td).take k)) (fun _ iv _ => l.length + l.length - (intOf iv).toNat)
                    case atStart => exact ⟨0, true, Nat.zero_le _, rfl, rfl, Below.refl _ _, ⟨fun _ => rfl, fun _ => rfl⟩⟩
                    case round =>
                      obtain ⟨k, bb, hk, rfl, rfl, hb, HE⟩ := hrel
                      have HB : Hid (Below W8.heap.size W8 wr) := hb
                      by_cases hkl : k < l.length + l.length
                      · obtain ⟨x, hx, -⟩ := drop_at (l := tq ++ late) (k := k) (by rw [HLN.out.2.2.1]; exact hkl)
                        obtain ⟨y, hy, -⟩ := drop_at (l := tk ++ td) (k := k) (by rw [HLN.out.2.2.2]; exact hkl)
                        have c0 := nu_at (fun q u hq => below_cell hb (HN.out.1.row q u hq)) hx
                        have d0 := nu_at (fun q u hq => below_cell hb (HN.out.2.row q u hq)) hy
                        rw [Nat.zero_add] at c0 d0
                        have HXY : Hid ((tq ++ late).take (k + 1) = (tq ++ late).take k ++ [x] ∧ (tk ++ td).take (k + 1) = (tk ++ td).take k ++ [y]) := by
                          constructor
                          · rw [List.take_add_one, hx]; rfl
                          · rw [List.take_add_one, hy]; rfl
                        have HLT9 : Hid (((tq ++ late).take k).length = ((tk ++ td).take k).length) := by
                          show _ = _
                          rw [List.length_take, List.length_take, HLN.out.2.2.1, HLN.out.2.2.2]
                        clear hb hx hy
                        have hki : (k : Int) < (((l.length + l.length : Nat)) : Int) := by omega
                        have hki2 : (k : Int) < (l.length : Int) + (l.length : Int) := by omega
                        rcases bb with _ | _
                        · have HF2 : Hid (false = true ↔ (tq ++ late).take (k + 1) = (tk ++ td).take (k + 1)) := by
                            refine ⟨(fun h => by cases h), fun h => ?_⟩
                            rw [HXY.out.1, HXY.out.2] at h
                            exact HE.out.2 (List.append_inj h HLT9.out).1
                          go_wp2_with fail
                          exact ⟨⟨k + 1, false, by omega, rfl, by simp, HB.out, HF2⟩, by simp [intOf]; omega⟩
                        · obtain ⟨eb, heb⟩ : ∃ eb, (x == y) = eb := ⟨_, rfl⟩
                          have HF2 : Hid (eb = true ↔ (tq ++ late).take (k + 1) = (tk ++ td).take (k + 1)) := by
                            show _ ↔ _
                            rw [HXY.out.1, HXY.out.2, ← heb, HE.out.1 rfl]
                            simp
                          go_wp2_with fail
                          exact ⟨⟨k + 1, eb, by omega, rfl, by simp, HB.out, HF2⟩, by simp [intOf]; omega⟩
                      · have hke : k = l.length + l.length := by omega
                        subst hke
                        have hE2 : bb = true ↔ tq ++ late = tk ++ td := by
                          have h9 := HE.out
                          rwa [List.take_of_length_le (by rw [HLN.out.2.2.1]; exact Nat.le_refl _), List.take_of_length_le (by rw [HLN.out.2.2.2]; exact Nat.le_refl _)] at h9
                        have HE2 : Hid (bb = true ↔ tq = tk ∧ late = td) := by
                          show _ ↔ _
                          rw [hE2]
                          exact ⟨fun h => List.append_inj h (by rw [HLN.out.1, HL.out.1]), fun h => by rw [h.1, h.2]⟩
                        have HPZ : Hid (PW w wr GT GD gw tq late (tk ++ td)) := HN.out.2.grow hb
                        have hki : ¬ (((l.length + l.length : Nat)) : Int) < (((l.length + l.length : Nat)) : Int) := by omega
                        have hki2 : ¬ (l.length : Int) + (l.length : Int) < (l.length : Int) + (l.length : Int) := by omega
                        clear hE2 HE hb HB
                        rcases bb with _ | _
                        · go_wp2_with fail
                          have hne : ¬ (tq = tk ∧ late = td) := fun h => by have := HE2.out.2 h; cases this
                          have hm := round_measure HOK.out HO.out.2.1 HLate.out HST.out hne
                          refine ⟨⟨tq, late, HPZ.out.pt, hm.1, HLN.out.2.1, HLZ.out⟩, ?_⟩
                          have e1 := rdN_row HPZ.out.pt.rowT
                          have e2 := rdN_row HPZ.out.pt.rowD
                          have e3 := rdN_row HO.out.1.rowT
                          have e4 := rdN_row HO.out.1.rowD
                          rw [HLN.out.1] at e1
                          rw [HLN.out.2.1] at e2
                          rw [HL.out.1] at e3
                          rw [HL.out.2] at e4
                          rw [e1, e2, e3, e4]
                          exact hm.2
                        · have hse : Sett l (List.replicate l.length 0) (some tq) := HO.out.2.1.tell _ (by have h9 := HST.out; rw [(HE2.out.1 rfl).1] at h9 ⊢; exact .fix h9)
                          have hlt := HPZ.out.pt.lt
                          have hrt : RowSl nuV ((wr.setCell ⟨w.heap.size, 0, none⟩ (.int .i64 0)).setCell ⟨w.heap.size, 1, none⟩ (.int .i64 0)) tq (.slice (some ⟨GT, 0, none⟩) l.length l.length) := by
                            have h9 : ((wr.setCell ⟨w.heap.size, 0, none⟩ (.int .i64 0)).setCell ⟨w.heap.size, 1, none⟩ (.int .i64 0)).heap[GT]? = some (.cells (tq.map (Value.int .i64)).toArray 3 (0, 0)) := by
                              rw [Below.heap_setCell _ _ _ _ (show GT ≠ w.heap.size by omega), Below.heap_setCell _ _ _ _ (show GT ≠ w.heap.size by omega)]
                              exact HPZ.out.pt.rt
                            have h8 := row_ints h9
                            rwa [HLN.out.1] at h8
                          have HR : Hid (RespsR l tq (0, 0) ∧ RowSl nuV ((wr.setCell ⟨w.heap.size, 0, none⟩ (.int .i64 0)).setCell ⟨w.heap.size, 1, none⟩ (.int .i64 0)) tq (.slice (some ⟨GT, 0, none⟩) l.length l.length) ∧ w.heap.size < GT) := ⟨.inr ⟨by rw [HZ.out], some tq, hse, .inr ⟨rfl, HLN.out.1, rfl⟩⟩, hrt, hlt⟩
                          obtain ⟨q0, q1, qf0, qf1, ql⟩ := HPZ.out.pt.fb.res2
                          clear hse hlt hrt hki hki2 HE2
                          go_upto_region 49 with fail
                          go_cut [2] from 195 to 196 (fun v W => v = .slice (some ⟨GT, 0, none⟩) l.length l.length ∧ W.heap[w.heap.size]? = some (.cells #[.int .i64 0, .int .i64 0] 30 (0, 0)) ∧ Below w.heap.size w W ∧ RowSl nuV W tq (.slice (some ⟨GT, 0, none⟩) l.length l.length))
                          case first =>
                            go_wp2_with fail
                            go_meet
                            case rel => exact ⟨rfl, set_two HPZ.out.pt.fb.res, HPZ.out.pt.fb.set _ _, HR.out.2.1⟩
                          case rest =>
                            obtain ⟨rfl, hq1, hq2, hq3⟩ := hcut
                            have HQ : Hid (wc.heap[w.heap.size]? = some (.cells #[.int .i64 0, .int .i64 0] 30 (0, 0)) ∧ Below w.heap.size w wc ∧ RowSl nuV wc tq (.slice (some ⟨GT, 0, none⟩) l.length l.length)) := ⟨hq1, hq2, hq3⟩
                            clear hq1 hq2 hq3
                            rename_i hKr
                            refine hKr _ _ (wp_ret ?_)
                            show bodyPost Tryd.prog Tryd.f26 (RespsPost w l) .ret _ _
                            refine bodyPost_ret (PartTimes_ends (g := w.heap.size) (c := .int .i64 0) (k := .int .i64 0) (v := .slice (some ⟨GT, 0, none⟩) l.length l.length) HQ.out.1 rfl rfl) rfl ?_
                            exact ⟨tq, (0, 0), _, HR.out.1, rfl, HQ.out.2.2, HQ.out.2.1, fun a n c e => by cases e; exact Nat.le_of_lt HR.out.2.2⟩
end Go.Proofs.YtccoobcggbbcialDoor
