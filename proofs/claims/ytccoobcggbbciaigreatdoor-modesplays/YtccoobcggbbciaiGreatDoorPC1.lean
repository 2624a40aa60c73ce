import Derived.Test.YtccoobcggbbciaiGreatDoorMR
import Derived.Test.YtccoobcggbbciaiGreatDoorDC0
namespace Go.Proofs.YtccoobcggbbciaiGreatDoor
open Go.ChangeShapes Go.WideShapes Go.ChangeAt Go.RowKit

/-- Three blocks of PlayCrit: both rows, and the fault. -/
structure CB (w W : World) (sv qv : Value) : Prop where
  fb : FB w W (w.heap.size + 2)
  b0 : W.heap[w.heap.size]? = some (.cells #[sv] 22 (0, 0))
  b1 : W.heap[w.heap.size + 1]? = some (.cells #[qv] 23 (0, 0))
theorem CB.grow {w W W' : World} {sv qv : Value} (h : CB w W sv qv) (hb : Below W.heap.size W W') : CB w W' sv qv :=
  ⟨h.fb.grow hb, (hb.block _ (Array.getElem?_eq_some_iff.1 h.b0).1).trans h.b0, (hb.block _ (Array.getElem?_eq_some_iff.1 h.b1).1).trans h.b1⟩
theorem CB.start (w : World) (sv qv : Value) : CB w (((w.alloc (.cells #[sv] 22)).alloc (.cells #[qv] 23)).alloc (.cells #[.int .i64 0, .int .i64 0] 30)) sv qv := by
  refine ⟨⟨below_seq (below_seq (below_new _ _) (below_new _ _)) (below_new _ _), ?_, by omega⟩, ?_, ?_⟩
  · have := heap_alloc_new ((w.alloc (.cells #[sv] 22)).alloc (.cells #[qv] 23)) (.cells #[.int .i64 0, .int .i64 0] 30)
    simpa using this
  · rw [Below.heap_alloc _ _ _ (by simp; omega), Below.heap_alloc _ _ _ (by simp)]
    exact heap_alloc_new _ _
  · rw [Below.heap_alloc _ _ _ (by simp)]
    have := heap_alloc_new (w.alloc (.cells #[sv] 22)) (.cells #[qv] 23)
    simpa using this

theorem PC_ends {w : World} {g : Nat} {c k a b t : Value} {ac : Act} (h : w.heap[g]? = some (.cells #[c, k] 30 (0, 0))) (h8 : ac.tmps[8]?.getD undef = a) (h9 : ac.tmps[9]?.getD undef = b) (h10 : ac.tmps[10]?.getD undef = t) (h3 : ac.tmps[11]?.getD undef = .pointer (some ⟨g, 0, none⟩)) :
    (results Tryz.f8 ac.tmps).run Tryz.prog w = .ok (.tuple #[a, b, t, .agg #[c, k]]) w := by
  obtain ⟨c1, f1, l1⟩ := cells_of (l := [_, _]) h
  have c10 := c1 0 _ rfl
  have c11 := c1 1 _ rfl
  simp [results, Tryz.results8, go_sem, h3, h8, h9, h10, c10, c11]

set_option maxRecDepth 20000 in
set_option maxHeartbeats 8000000 in
theorem PlayCrit_bad (w : World) (set : List Cr) (cs : List Co) (tk : List Int) (u : Int) (v vc vt : Value) (hv : RowSl Cr.vals w set v) (hc : RowSl Co.vals w cs vc) (ht : RowSl nuV w tk vt) (hbad : (chkM set cs tk u).1 ≠ 0) :
    Calls Tryz.prog 8 #[v, vc, vt, .int .i64 u] w fun r W => r = .returned (.tuple #[.slice none 0 0, .slice none 0 0, .int .i64 0, .agg #[.int .i64 (chkM set cs tk u).1, .int .i64 (chkM set cs tk u).2]]) ∧ Below w.heap.size w W := by
  have HF : Hid (CB w (((w.alloc (.cells #[v] 22)).alloc (.cells #[vc] 23)).alloc (.cells #[.int .i64 0, .int .i64 0] 30)) v vc) := CB.start w v vc
  have HC := CheckCrit_any (((w.alloc (.cells #[v] 22)).alloc (.cells #[vc] 23)).alloc (.cells #[.int .i64 0, .int .i64 0] 30)) set v (hv.below HF.out.fb.bel)
  obtain ⟨ad, ac, rfl, -, hac, hrow⟩ := hv
  obtain ⟨bd, bc, rfl, -, hbc, hrowc⟩ := hc
  obtain ⟨td, tc, rfl, -, htc, hrowt⟩ := ht
  have HR : Hid ((set = [] ∨ ∃ b o, ad = some ⟨b, o, none⟩ ∧ ∀ q u, (set.flatMap Cr.vals)[q]? = some u → w.cell? ⟨b, o + q, none⟩ = some u) ∧ (cs = [] ∨ ∃ b o, bd = some ⟨b, o, none⟩ ∧ ∀ q u, (cs.flatMap Co.vals)[q]? = some u → w.cell? ⟨b, o + q, none⟩ = some u) ∧ (tk = [] ∨ ∃ b o, td = some ⟨b, o, none⟩ ∧ ∀ q u, (tk.flatMap nuV)[q]? = some u → w.cell? ⟨b, o + q, none⟩ = some u)) := ⟨hrow, hrowc, hrowt⟩
  clear hrow hrowc hrowt
  obtain ⟨z1, z2, hz⟩ : ∃ z1 z2, chkC set = (z1, z2) := ⟨_, _, rfl⟩
  obtain ⟨y1, y2, hy⟩ : ∃ y1 y2, chkM set cs tk u = (y1, y2) := ⟨_, _, rfl⟩
  have HY : Hid (chkC set = (z1, z2) ∧ chkM set cs tk u = (y1, y2) ∧ y1 ≠ 0) := ⟨hz, hy, by rw [hy] at hbad; exact hbad⟩
  rw [hz] at HC
  rw [hy]
  dsimp only at HC ⊢
  clear hz hy hbad
  go_enter Tryz.func8, Tryz.ntmps8
  go_upto_region 2 with (go_at_call 32; refine HC.mono ?_; rintro r w1 ⟨rfl, hb1⟩; have H1 : Hid (CB w (w1.alloc (.cells #[.int .i64 z1, .int .i64 z2] 30)) (.slice ad set.length ac) (.slice bd cs.length bc)) := (HF.out.grow hb1).grow (below_new _ _); clear hb1 HC HF)
  obtain ⟨gs, -, gl⟩ := cells_of (l := [_, _]) (heap_alloc_new w1 (.cells #[.int .i64 z1, .int .i64 z2] 30))
  have g0 := gs 0 _ rfl
  have g1 := gs 1 _ rfl
  clear gs gl
  generalize (w1.alloc (.cells #[.int .i64 z1, .int .i64 z2] 30)) = w2 at *
  generalize w1.heap.size = fb at *
  obtain ⟨ts, -, tl0⟩ := cells_of (l := [_]) H1.out.b0
  have bx0 := ts 0 _ rfl
  obtain ⟨ts1, -, tl1⟩ := cells_of (l := [_]) H1.out.b1
  have bx1 := ts1 0 _ rfl
  clear ts ts1
  obtain ⟨G, hG⟩ : ∃ G, w.heap.size = G := ⟨_, rfl⟩
  rw [hG] at bx0 bx1 tl0 tl1
  simp only [hG]
  by_cases hz1 : z1 = 0
  rotate_left 1
  · have hzb : (z1 != 0) = true := by simpa using hz1
    obtain ⟨qs, qf, ql⟩ := cells_of (l := [_, _]) H1.out.fb.res; have q0 := qs 0 _ rfl; have q1 := qs 1 _ rfl; have qf0 := qf 0; have qf1 := qf 1; clear qs qf
    rw [hG] at q0 q1 qf0 qf1 ql
    go_upto_region 3 with fail
    go_region
    all_goals go_wp2_with fail
    all_goals
      refine bodyPost_ret (PC_ends (g := G + 2) (c := .int .i64 z1) (k := .int .i64 z2) (set_two (by rw [← hG]; exact H1.out.fb.res)) rfl rfl rfl rfl) rfl ?_
      have e := HY.out.2.1
      rw [chkM_1 (by rw [HY.out.1]; exact hz1), HY.out.1] at e
      obtain ⟨rfl, rfl⟩ := Prod.mk.inj e
      rw [← hG]
      exact ⟨rfl, by have := (H1.out.fb.grow (Below.refl _ _).drew).set (.int .i64 z1) (.int .i64 z2); exact this⟩
  subst hz1
  have HZ : Hid ((chkC set).1 = 0) := by
    have e : (chkC set).1 = 0 := by rw [HY.out.1]
    exact e
  obtain ⟨hs1, hs8, -, -⟩ := chkC_ok HZ.out
  by_cases h4 : 4000 < cs.length
  · have h4' : (4000 : Int) < (cs.length : Int) := by omega
    go_wp2_with (go_at_call 33; refine (F_any _ _ _).mono ?_; rintro r w9 ⟨rfl, hb9⟩; have H9 : Hid (CB w w9 (.slice ad set.length ac) (.slice bd cs.length bc)) := H1.out.grow hb9; obtain ⟨qs, qf, ql⟩ := cells_of (l := [_, _]) H9.out.fb.res; have q0 := qs 0 _ rfl; have q1 := qs 1 _ rfl; have qf0 := qf 0; have qf1 := qf 1; clear qs qf; rw [hG] at q0 q1 qf0 qf1 ql; clear hb9)
    refine bodyPost_ret (PC_ends (g := G + 2) (c := .int .i64 2) (k := .int .i64 0) (set_two (by rw [← hG]; exact H9.out.fb.res)) rfl rfl rfl rfl) rfl ?_
    have e := HY.out.2.1
    rw [chkM_2 HZ.out (.inl h4)] at e
    obtain ⟨rfl, rfl⟩ := Prod.mk.inj e
    rw [← hG]
    exact ⟨rfl, H9.out.fb.set _ _⟩
  have h4' : ¬ (4000 : Int) < (cs.length : Int) := by omega
  by_cases h5 : tk.length = cs.length
  rotate_left 1
  · have h5' : ((tk.length : Int) != (cs.length : Int)) = true := by rw [bne_iff_ne]; omega
    go_wp2_with (go_at_call 33; refine (F_any _ _ _).mono ?_; rintro r w9 ⟨rfl, hb9⟩; have H9 : Hid (CB w w9 (.slice ad set.length ac) (.slice bd cs.length bc)) := H1.out.grow hb9; obtain ⟨qs, qf, ql⟩ := cells_of (l := [_, _]) H9.out.fb.res; have q0 := qs 0 _ rfl; have q1 := qs 1 _ rfl; have qf0 := qf 0; have qf1 := qf 1; clear qs qf; rw [hG] at q0 q1 qf0 qf1 ql; clear hb9)
    refine bodyPost_ret (PC_ends (g := G + 2) (c := .int .i64 2) (k := .int .i64 0) (set_two (by rw [← hG]; exact H9.out.fb.res)) rfl rfl rfl rfl) rfl ?_
    have e := HY.out.2.1
    rw [chkM_2 HZ.out (.inr h5)] at e
    obtain ⟨rfl, rfl⟩ := Prod.mk.inj e
    rw [← hG]
    exact ⟨rfl, H9.out.fb.set _ _⟩
  have h5' : ((tk.length : Int) != (cs.length : Int)) = false := by rw [bne_eq_false_iff_eq]; omega
  have HL : Hid (¬ (4000 < cs.length ∨ tk.length ≠ cs.length)) := by
    have e : ¬ (4000 < cs.length ∨ tk.length ≠ cs.length) := by omega
    exact e
  by_cases q1n : u < 0
  · have q1b : decide (u < 0) = true := decide_eq_true q1n
    have hw : within u 0 20000 = false := by unfold within; simp; omega
    have HU : Hid (within u 0 20000 = false) := hw
    clear hw
    go_wp2_with (go_at_call 33; refine (F_any _ _ _).mono ?_; rintro r w9 ⟨rfl, hb9⟩; have H9 : Hid (CB w w9 (.slice ad set.length ac) (.slice bd cs.length bc)) := H1.out.grow hb9; obtain ⟨qs, qf, ql⟩ := cells_of (l := [_, _]) H9.out.fb.res; have q0 := qs 0 _ rfl; have q1 := qs 1 _ rfl; have qf0 := qf 0; have qf1 := qf 1; clear qs qf; rw [hG] at q0 q1 qf0 qf1 ql; clear hb9)
    refine bodyPost_ret (PC_ends (g := G + 2) (c := .int .i64 3) (k := .int .i64 0) (set_two (by rw [← hG]; exact H9.out.fb.res)) rfl rfl rfl rfl) rfl ?_
    have e := HY.out.2.1
    rw [chkM_3 HZ.out HL.out HU.out] at e
    obtain ⟨rfl, rfl⟩ := Prod.mk.inj e
    rw [← hG]
    exact ⟨rfl, H9.out.fb.set _ _⟩
  have q1b : decide (u < 0) = false := decide_eq_false q1n
  by_cases q2n : 20000 < u
  · have q2b : decide (20000 < u) = true := decide_eq_true q2n
    have hw : within u 0 20000 = false := by unfold within; simp; omega
    have HU : Hid (within u 0 20000 = false) := hw
    clear hw
    go_wp2_with (go_at_call 33; refine (F_any _ _ _).mono ?_; rintro r w9 ⟨rfl, hb9⟩; have H9 : Hid (CB w w9 (.slice ad set.length ac) (.slice bd cs.length bc)) := H1.out.grow hb9; obtain ⟨qs, qf, ql⟩ := cells_of (l := [_, _]) H9.out.fb.res; have q0 := qs 0 _ rfl; have q1 := qs 1 _ rfl; have qf0 := qf 0; have qf1 := qf 1; clear qs qf; rw [hG] at q0 q1 qf0 qf1 ql; clear hb9)
    refine bodyPost_ret (PC_ends (g := G + 2) (c := .int .i64 3) (k := .int .i64 0) (set_two (by rw [← hG]; exact H9.out.fb.res)) rfl rfl rfl rfl) rfl ?_
    have e := HY.out.2.1
    rw [chkM_3 HZ.out HL.out HU.out] at e
    obtain ⟨rfl, rfl⟩ := Prod.mk.inj e
    rw [← hG]
    exact ⟨rfl, H9.out.fb.set _ _⟩
  have q2b : decide (20000 < u) = false := decide_eq_false q2n
  have HU : Hid (within u 0 20000 = true) := by
    have hw : within u 0 20000 = true := by unfold within; simp; omega
    exact hw
  have HM : Hid (chkMF set tk cs 0 = (y1, y2)) := by
    have e := HY.out.2.1
    rw [chkM_4 HZ.out HL.out HU.out] at e
    exact e
  go_wp2_with fail
  clear g0 g1
  go_loopw [49] (fun i wr => ∃ j : Nat, j ≤ cs.length ∧ i = .int .i64 j ∧ CB w wr (.slice ad set.length ac) (.slice bd cs.length bc) ∧ chkMF set tk (cs.drop j) j = (y1, y2)) (fun i _ => cs.length - (intOf i).toNat)
  case atStart => exact ⟨0, Nat.zero_le _, rfl, H1.out, HM.out⟩
  case round =>
    clear bx0 bx1 tl0 tl1
    obtain ⟨j, hj, rfl, hcb, hf⟩ := hrel
    by_cases hjl : j < cs.length
    rotate_left 1
    · exfalso
      rw [List.drop_eq_nil_of_le (by omega), chkMF] at hf
      exact HY.out.2.2 (Prod.mk.inj hf).1.symm
    · obtain ⟨x, hx, hd'⟩ := drop_at hjl
      obtain ⟨y, hy⟩ : ∃ y, tk[j]? = some y := ⟨_, List.getElem?_eq_getElem (by omega)⟩
      have hyd : tk.getD j 0 = y := by rw [List.getD_eq_getElem?_getD, hy]; rfl
      rw [hd', chkMF, hyd] at hf
      rcases HR.out.2.1 with h | ⟨bb, bo, rfl, hr1⟩
      · rw [h] at hjl; simp at hjl
      rcases HR.out.2.2 with h | ⟨tb, to', rfl, hr2⟩
      · rw [h] at hy; simp at hy
      obtain ⟨c0, c1⟩ := co_at (fun q u hq => below_cell hcb.fb.bel (hr1 q u hq)) hx
      have cty0 := below_cell hcb.fb.bel (nu_at hr2 hy)
      have HF2 : Hid (CB w (wr.alloc (.cells #[.int .i64 x.k, .int .i64 x.a] 38)) (.slice ad set.length ac) (.slice (some ⟨bb, bo, none⟩) cs.length bc)) := hcb.grow (below_new _ _)
      have HX : Hid ((if badM set x y = 0 then chkMF set tk (cs.drop (j + 1)) (j + 1) else (badM set x y, (j : Int))) = (y1, y2)) := hf
      obtain ⟨ts, -, tl0⟩ := cells_of (l := [_]) HF2.out.b0
      have bx0 := ts 0 _ rfl
      rw [hG] at bx0 tl0
      clear ts
      have hji : (j : Int) < (cs.length : Int) := by omega
      have hjt : (j : Int) < (tk.length : Int) := by omega
      have hsw : IntKind.i64.wrap ((j : Int) + 1) = (j : Int) + 1 := by rw [IntKind.wrap_i64]; omega
      obtain ⟨cs0, cf0, cl0⟩ := cells_of (l := [_, _]) (heap_alloc_new wr (.cells #[.int .i64 x.k, .int .i64 x.a] 38))
      have cg0 := cs0 0 _ rfl
      have cg1 := cs0 1 _ rfl
      have cty := below_cell (below_new wr (.cells #[.int .i64 x.k, .int .i64 x.a] 38)) cty0
      clear hf hr1 hr2 hx hd' hy hyd cty0 hcb cs0 cf0
      obtain ⟨xk, xa⟩ := x
      dsimp only at c0 c1 cg0 cg1 cty HF2 bx0 tl0 cl0
      go_upto_region 11 with fail
      clear c0 c1
      generalize wr.alloc (.cells #[.int .i64 xk, .int .i64 xa] 38) = w5 at *
      generalize wr.heap.size = cg at *
      by_cases k0 : xk < 0
      · have k0b : decide (xk < 0) = true := decide_eq_true k0
        have HB : Hid (badM set ⟨xk, xa⟩ y = 4) := by
          have e : badM set ⟨xk, xa⟩ y = 4 := by unfold badM; rw [if_pos (by unfold within; simp; omega)]
          exact e
        go_wp2_with (go_at_call 33; refine (F_any _ _ _).mono ?_; rintro r w9 ⟨rfl, hb9⟩; have H9 : Hid (CB w w9 (.slice ad set.length ac) (.slice (some ⟨bb, bo, none⟩) cs.length bc)) := HF2.out.grow hb9; obtain ⟨qs, qf, ql⟩ := cells_of (l := [_, _]) H9.out.fb.res; have q0 := qs 0 _ rfl; have q1 := qs 1 _ rfl; have qf0 := qf 0; have qf1 := qf 1; clear qs qf; rw [hG] at q0 q1 qf0 qf1 ql; clear hb9)
        refine bodyPost_ret (PC_ends (g := G + 2) (c := .int .i64 4) (k := .int .i64 (j : Int)) (set_two (by rw [← hG]; exact H9.out.fb.res)) rfl rfl rfl rfl) rfl ?_
        have e := HX.out
        rw [HB.out, if_neg (by decide)] at e
        obtain ⟨rfl, rfl⟩ := Prod.mk.inj e
        rw [← hG]
        exact ⟨rfl, H9.out.fb.set _ _⟩
      have k0b : decide (xk < 0) = false := decide_eq_false k0
      by_cases k1 : (set.length : Int) ≤ xk
      · have k1b : decide ((set.length : Int) ≤ xk) = true := decide_eq_true k1
        have HB : Hid (badM set ⟨xk, xa⟩ y = 4) := by
          have e : badM set ⟨xk, xa⟩ y = 4 := by unfold badM; rw [if_pos (by unfold within; simp; omega)]
          exact e
        go_wp2_with (go_at_call 33; refine (F_any _ _ _).mono ?_; rintro r w9 ⟨rfl, hb9⟩; have H9 : Hid (CB w w9 (.slice ad set.length ac) (.slice (some ⟨bb, bo, none⟩) cs.length bc)) := HF2.out.grow hb9; obtain ⟨qs, qf, ql⟩ := cells_of (l := [_, _]) H9.out.fb.res; have q0 := qs 0 _ rfl; have q1 := qs 1 _ rfl; have qf0 := qf 0; have qf1 := qf 1; clear qs qf; rw [hG] at q0 q1 qf0 qf1 ql; clear hb9)
        refine bodyPost_ret (PC_ends (g := G + 2) (c := .int .i64 4) (k := .int .i64 (j : Int)) (set_two (by rw [← hG]; exact H9.out.fb.res)) rfl rfl rfl rfl) rfl ?_
        have e := HX.out
        rw [HB.out, if_neg (by decide)] at e
        obtain ⟨rfl, rfl⟩ := Prod.mk.inj e
        rw [← hG]
        exact ⟨rfl, H9.out.fb.set _ _⟩
      have k1b : decide ((set.length : Int) ≤ xk) = false := decide_eq_false k1
      obtain ⟨k, hk⟩ : ∃ k : Nat, xk = (k : Int) := ⟨xk.toNat, by omega⟩
      have hkl : k < set.length := by omega
      have hxx : set[k]? = some (set.getD k cr0) := by rw [List.getD_eq_getElem?_getD, List.getElem?_eq_getElem hkl]; rfl
      rcases HR.out.1 with h | ⟨ab, ao, rfl, hr3⟩
      · rw [h] at hkl; simp at hkl
      have cxh := (cr_at (fun q u hq => below_cell HF2.out.fb.bel (hr3 q u hq)) hxx).2.1
      subst hk
      have HB : Hid (badM set ⟨(k : Int), xa⟩ y = if within xa 0 20000 = false ∨ within y 1 (set.getD k cr0).h = false then 3 else 0) := by
        have e : badM set ⟨(k : Int), xa⟩ y = if within xa 0 20000 = false ∨ within y 1 (set.getD k cr0).h = false then 3 else 0 := by unfold badM; rw [if_neg (by unfold within; simp; omega), Int.toNat_natCast]
        exact e
      generalize (set.getD k cr0).h = xh at *
      have hki : (k : Int) < (set.length : Int) := by omega
      clear hr3 hxx
      go_upto_region 13 with fail
      by_cases a0 : xa < 0
      · have a0b : decide (xa < 0) = true := decide_eq_true a0
        have HE : Hid (within xa 0 20000 = false ∨ within y 1 xh = false) := by
          have e : within xa 0 20000 = false ∨ within y 1 xh = false := .inl (by unfold within; simp; omega)
          exact e
        refine wp_region_noPanic ?_
        refine wp_region_held_drew (S := fun w' => w'.cell? ⟨G, 0, none⟩ = some (.slice (some ⟨ab, ao, none⟩) set.length ac) ∧ w'.cell? ⟨cg, 0, none⟩ = some (.int .i64 (k : Int)) ∧ w'.cell? ⟨cg, 1, none⟩ = some (.int .i64 xa) ∧ w'.cell? ⟨tb, to' + j, none⟩ = some (.int .i64 y) ∧ w'.cell? ⟨ab, ao + k * 6 + 1, none⟩ = some (.int .i64 xh)) (by kernel_rfl) ⟨bx0, cg0, cg1, cty, cxh⟩ (fun hHeld => ?_)
        refine take_at (i := 0) (n := 66) (v := ?_) rfl rfl (by kernel_rfl) (by kernel_rfl) (by kernel_rfl) (fun _ _ _ h => h) (Or.inl ⟨by rfl, ?_⟩) (by assumption) ?_
        rotate_left 1
        · intro wz hSw
          obtain ⟨s0, s1, s2, s3, s4⟩ := hSw
          first | (go_simp; done) | (go_simp; with_reducible rfl)
        simp only [List.set_cons_zero, List.set_cons_succ]
        refine take_at (i := 1) (n := 67) (v := ?_) rfl rfl (by kernel_rfl) (by kernel_rfl) (by kernel_rfl) (fun _ _ _ h => h) (Or.inl ⟨by rfl, ?_⟩) (by assumption) ?_
        rotate_left 1
        · intro wz hSw
          obtain ⟨s0, s1, s2, s3, s4⟩ := hSw
          first | (go_simp; done) | (go_simp; with_reducible rfl)
        simp only [List.set_cons_zero, List.set_cons_succ]
        refine take_at (i := 2) (n := 68) (v := ?_) rfl rfl (by kernel_rfl) (by kernel_rfl) (by kernel_rfl) (fun _ _ _ h => h) (Or.inl ⟨by rfl, ?_⟩) (by assumption) ?_
        rotate_left 1
        · intro wz hSw
          obtain ⟨s0, s1, s2, s3, s4⟩ := hSw
          first | (go_simp; done) | (go_simp; with_reducible rfl)
        simp only [List.set_cons_zero, List.set_cons_succ]
        refine take_at (i := 3) (n := 69) (v := ?_) rfl rfl (by kernel_rfl) (by kernel_rfl) (by kernel_rfl) (fun _ _ _ h => h) (Or.inl ⟨by rfl, ?_⟩) (by assumption) ?_
        rotate_left 1
        · intro wz hSw
          obtain ⟨s0, s1, s2, s3, s4⟩ := hSw
          first | (go_simp; done) | (go_simp; with_reducible rfl)
        simp only [List.set_cons_zero, List.set_cons_succ]
        refine take_at (i := 4) (n := 70) (v := undef) rfl rfl (by kernel_rfl) (by kernel_rfl) (by kernel_rfl) (fun _ _ _ h => h) (Or.inr ⟨by rfl, rfl⟩) (by assumption) ?_
        simp only [List.set_cons_zero, List.set_cons_succ]
        refine take_at (i := 5) (n := 71) (v := undef) rfl rfl (by kernel_rfl) (by kernel_rfl) (by kernel_rfl) (fun _ _ _ h => h) (Or.inr ⟨by rfl, rfl⟩) (by assumption) ?_
        simp only [List.set_cons_zero, List.set_cons_succ]
        refine take_at (i := 6) (n := 72) (v := undef) rfl rfl (by kernel_rfl) (by kernel_rfl) (by kernel_rfl) (fun _ _ _ h => h) (Or.inr ⟨by rfl, rfl⟩) (by assumption) ?_
        simp only [List.set_cons_zero, List.set_cons_succ]
        refine take_at (i := 7) (n := 73) (v := ?_) rfl rfl (by kernel_rfl) (by kernel_rfl) (by kernel_rfl) (fun _ _ _ h => h) (Or.inl ⟨by rfl, ?_⟩) (by assumption) ?_
        rotate_left 1
        · intro wz hSw
          obtain ⟨s0, s1, s2, s3, s4⟩ := hSw
          first | (go_simp; done) | (go_simp; with_reducible rfl)
        simp only [List.set_cons_zero, List.set_cons_succ]
        refine take_at (i := 8) (n := 74) (v := ?_) rfl rfl (by kernel_rfl) (by kernel_rfl) (by kernel_rfl) (fun _ _ _ h => h) (Or.inl ⟨by rfl, ?_⟩) (by assumption) ?_
        rotate_left 1
        · intro wz hSw
          obtain ⟨s0, s1, s2, s3, s4⟩ := hSw
          first | (go_simp; done) | (go_simp; with_reducible rfl)
        simp only [List.set_cons_zero, List.set_cons_succ]
        refine take_at (i := 9) (n := 75) (v := undef) rfl rfl (by kernel_rfl) (by kernel_rfl) (by kernel_rfl) (fun _ _ _ h => h) (Or.inr ⟨by rfl, rfl⟩) (by assumption) ?_
        simp only [List.set_cons_zero, List.set_cons_succ]
        refine take_at (i := 10) (n := 76) (v := undef) rfl rfl (by kernel_rfl) (by kernel_rfl) (by kernel_rfl) (fun _ _ _ h => h) (Or.inr ⟨by rfl, rfl⟩) (by assumption) ?_
        simp only [List.set_cons_zero, List.set_cons_succ]
        refine take_at (i := 11) (n := 77) (v := undef) rfl rfl (by kernel_rfl) (by kernel_rfl) (by kernel_rfl) (fun _ _ _ h => h) (Or.inr ⟨by rfl, rfl⟩) (by assumption) ?_
        simp only [List.set_cons_zero, List.set_cons_succ]
        refine take_at (i := 12) (n := 78) (v := undef) rfl rfl (by kernel_rfl) (by kernel_rfl) (by kernel_rfl) (fun _ _ _ h => h) (Or.inr ⟨by rfl, rfl⟩) (by assumption) ?_
        simp only [List.set_cons_zero, List.set_cons_succ]
        refine take_at (i := 13) (n := 79) (v := undef) rfl rfl (by kernel_rfl) (by kernel_rfl) (by kernel_rfl) (fun _ _ _ h => h) (Or.inr ⟨by rfl, rfl⟩) (by assumption) ?_
        simp only [List.set_cons_zero, List.set_cons_succ]
        refine take_at (i := 14) (n := 80) (v := ?_) rfl rfl (by kernel_rfl) (by kernel_rfl) (by kernel_rfl) (fun _ _ _ h => h) (Or.inl ⟨by rfl, ?_⟩) (by assumption) ?_
        rotate_left 1
        · intro wz hSw
          obtain ⟨s0, s1, s2, s3, s4⟩ := hSw
          first | (go_simp; done) | (go_simp; with_reducible rfl)
        simp only [List.set_cons_zero, List.set_cons_succ]
        refine take_at (i := 15) (n := 81) (v := ?_) rfl rfl (by kernel_rfl) (by kernel_rfl) (by kernel_rfl) (fun _ _ _ h => h) (Or.inl ⟨by rfl, ?_⟩) (by assumption) ?_
        rotate_left 1
        · intro wz hSw
          obtain ⟨s0, s1, s2, s3, s4⟩ := hSw
          first | (go_simp; done) | (go_simp; with_reducible rfl)
        simp only [List.set_cons_zero, List.set_cons_succ]
        refine take_at (i := 16) (n := 82) (v := undef) rfl rfl (by kernel_rfl) (by kernel_rfl) (by kernel_rfl) (fun _ _ _ h => h) (Or.inr ⟨by rfl, rfl⟩) (by assumption) ?_
        simp only [List.set_cons_zero, List.set_cons_succ]
        refine take_at (i := 17) (n := 83) (v := undef) rfl rfl (by kernel_rfl) (by kernel_rfl) (by kernel_rfl) (fun _ _ _ h => h) (Or.inr ⟨by rfl, rfl⟩) (by assumption) ?_
        simp only [List.set_cons_zero, List.set_cons_succ]
        refine take_at (i := 18) (n := 84) (v := undef) rfl rfl (by kernel_rfl) (by kernel_rfl) (by kernel_rfl) (fun _ _ _ h => h) (Or.inr ⟨by rfl, rfl⟩) (by assumption) ?_
        simp only [List.set_cons_zero, List.set_cons_succ]
        refine take_at (i := 19) (n := 85) (v := undef) rfl rfl (by kernel_rfl) (by kernel_rfl) (by kernel_rfl) (fun _ _ _ h => h) (Or.inr ⟨by rfl, rfl⟩) (by assumption) ?_
        simp only [List.set_cons_zero, List.set_cons_succ]
        refine take_at (i := 20) (n := 86) (v := undef) rfl rfl (by kernel_rfl) (by kernel_rfl) (by kernel_rfl) (fun _ _ _ h => h) (Or.inr ⟨by rfl, rfl⟩) (by assumption) ?_
        simp only [List.set_cons_zero, List.set_cons_succ]
        refine take_at (i := 21) (n := 87) (v := undef) rfl rfl (by kernel_rfl) (by kernel_rfl) (by kernel_rfl) (fun _ _ _ h => h) (Or.inr ⟨by rfl, rfl⟩) (by assumption) ?_
        simp only [List.set_cons_zero, List.set_cons_succ]
        refine take_at (i := 22) (n := 88) (v := undef) rfl rfl (by kernel_rfl) (by kernel_rfl) (by kernel_rfl) (fun _ _ _ h => h) (Or.inr ⟨by rfl, rfl⟩) (by assumption) ?_
        simp only [List.set_cons_zero, List.set_cons_succ]
        refine take_at (i := 23) (n := 89) (v := undef) rfl rfl (by kernel_rfl) (by kernel_rfl) (by kernel_rfl) (fun _ _ _ h => h) (Or.inr ⟨by rfl, rfl⟩) (by assumption) ?_
        simp only [List.set_cons_zero, List.set_cons_succ]
        refine take_at (i := 24) (n := 90) (v := undef) rfl rfl (by kernel_rfl) (by kernel_rfl) (by kernel_rfl) (fun _ _ _ h => h) (Or.inr ⟨by rfl, rfl⟩) (by assumption) ?_
        simp only [List.set_cons_zero, List.set_cons_succ]
        refine take_at (i := 25) (n := 91) (v := undef) rfl rfl (by kernel_rfl) (by kernel_rfl) (by kernel_rfl) (fun _ _ _ h => h) (Or.inr ⟨by rfl, rfl⟩) (by assumption) ?_
        simp only [List.set_cons_zero, List.set_cons_succ]
        refine take_at (i := 26) (n := 92) (v := undef) rfl rfl (by kernel_rfl) (by kernel_rfl) (by kernel_rfl) (fun _ _ _ h => h) (Or.inr ⟨by rfl, rfl⟩) (by assumption) ?_
        simp only [List.set_cons_zero, List.set_cons_succ]
        refine take_at (i := 27) (n := 93) (v := ?_) rfl rfl (by kernel_rfl) (by kernel_rfl) (by kernel_rfl) (fun _ _ _ h => h) (Or.inl ⟨by rfl, ?_⟩) (by assumption) ?_
        rotate_left 1
        · intro wz hSw
          obtain ⟨s0, s1, s2, s3, s4⟩ := hSw
          first | (go_simp; done) | (go_simp; with_reducible rfl)
        simp only [List.set_cons_zero, List.set_cons_succ]
        refine wpAnyH_done (by kernel_rfl) ?_ _
        refine NoPanic.normal ?_
        clear hHeld
        have HG : Hid (CB w w5.drew (.slice (some ⟨ab, ao, none⟩) set.length ac) (.slice (some ⟨bb, bo, none⟩) cs.length bc)) := HF2.out.grow (Below.refl _ _).drew
        generalize w5.drew = w6 at *
        clear bx0 cg0 cg1 cty cxh tl0 cl0
        go_wp2_with (go_at_call 33; refine (F_any _ _ _).mono ?_; rintro r w9 ⟨rfl, hb9⟩; have H9 : Hid (CB w w9 (.slice (some ⟨ab, ao, none⟩) set.length ac) (.slice (some ⟨bb, bo, none⟩) cs.length bc)) := HG.out.grow hb9; obtain ⟨qs, qf, ql⟩ := cells_of (l := [_, _]) H9.out.fb.res; have q0 := qs 0 _ rfl; have q1 := qs 1 _ rfl; have qf0 := qf 0; have qf1 := qf 1; clear qs qf; rw [hG] at q0 q1 qf0 qf1 ql; clear hb9)
        refine bodyPost_ret (PC_ends (g := G + 2) (c := .int .i64 3) (k := .int .i64 (j : Int)) (set_two (by rw [← hG]; exact H9.out.fb.res)) rfl rfl rfl rfl) rfl ?_
        have e := HX.out
        rw [HB.out, if_pos HE.out, if_neg (by decide)] at e
        obtain ⟨rfl, rfl⟩ := Prod.mk.inj e
        rw [← hG]
        exact ⟨rfl, H9.out.fb.set _ _⟩
      have a0b : decide (xa < 0) = false := decide_eq_false a0
      by_cases a1 : 20000 < xa
      · have a1b : decide (20000 < xa) = true := decide_eq_true a1
        have HE : Hid (within xa 0 20000 = false ∨ within y 1 xh = false) := by
          have e : within xa 0 20000 = false ∨ within y 1 xh = false := .inl (by unfold within; simp; omega)
          exact e
        refine wp_region_noPanic ?_
        refine wp_region_held_drew (S := fun w' => w'.cell? ⟨G, 0, none⟩ = some (.slice (some ⟨ab, ao, none⟩) set.length ac) ∧ w'.cell? ⟨cg, 0, none⟩ = some (.int .i64 (k : Int)) ∧ w'.cell? ⟨cg, 1, none⟩ = some (.int .i64 xa) ∧ w'.cell? ⟨tb, to' + j, none⟩ = some (.int .i64 y) ∧ w'.cell? ⟨ab, ao + k * 6 + 1, none⟩ = some (.int .i64 xh)) (by kernel_rfl) ⟨bx0, cg0, cg1, cty, cxh⟩ (fun hHeld => ?_)
        refine take_at (i := 0) (n := 66) (v := ?_) rfl rfl (by kernel_rfl) (by kernel_rfl) (by kernel_rfl) (fun _ _ _ h => h) (Or.inl ⟨by rfl, ?_⟩) (by assumption) ?_
        rotate_left 1
        · intro wz hSw
          obtain ⟨s0, s1, s2, s3, s4⟩ := hSw
          first | (go_simp; done) | (go_simp; with_reducible rfl)
        simp only [List.set_cons_zero, List.set_cons_succ]
        refine take_at (i := 1) (n := 67) (v := ?_) rfl rfl (by kernel_rfl) (by kernel_rfl) (by kernel_rfl) (fun _ _ _ h => h) (Or.inl ⟨by rfl, ?_⟩) (by assumption) ?_
        rotate_left 1
        · intro wz hSw
          obtain ⟨s0, s1, s2, s3, s4⟩ := hSw
          first | (go_simp; done) | (go_simp; with_reducible rfl)
        simp only [List.set_cons_zero, List.set_cons_succ]
        refine take_at (i := 2) (n := 68) (v := ?_) rfl rfl (by kernel_rfl) (by kernel_rfl) (by kernel_rfl) (fun _ _ _ h => h) (Or.inl ⟨by rfl, ?_⟩) (by assumption) ?_
        rotate_left 1
        · intro wz hSw
          obtain ⟨s0, s1, s2, s3, s4⟩ := hSw
          first | (go_simp; done) | (go_simp; with_reducible rfl)
        simp only [List.set_cons_zero, List.set_cons_succ]
        refine take_at (i := 3) (n := 69) (v := ?_) rfl rfl (by kernel_rfl) (by kernel_rfl) (by kernel_rfl) (fun _ _ _ h => h) (Or.inl ⟨by rfl, ?_⟩) (by assumption) ?_
        rotate_left 1
        · intro wz hSw
          obtain ⟨s0, s1, s2, s3, s4⟩ := hSw
          first | (go_simp; done) | (go_simp; with_reducible rfl)
        simp only [List.set_cons_zero, List.set_cons_succ]
        refine take_at (i := 4) (n := 70) (v := ?_) rfl rfl (by kernel_rfl) (by kernel_rfl) (by kernel_rfl) (fun _ _ _ h => h) (Or.inl ⟨by rfl, ?_⟩) (by assumption) ?_
        rotate_left 1
        · intro wz hSw
          obtain ⟨s0, s1, s2, s3, s4⟩ := hSw
          first | (go_simp; done) | (go_simp; with_reducible rfl)
        simp only [List.set_cons_zero, List.set_cons_succ]
        refine take_at (i := 5) (n := 71) (v := ?_) rfl rfl (by kernel_rfl) (by kernel_rfl) (by kernel_rfl) (fun _ _ _ h => h) (Or.inl ⟨by rfl, ?_⟩) (by assumption) ?_
        rotate_left 1
        · intro wz hSw
          obtain ⟨s0, s1, s2, s3, s4⟩ := hSw
          first | (go_simp; done) | (go_simp; with_reducible rfl)
        simp only [List.set_cons_zero, List.set_cons_succ]
        refine take_at (i := 6) (n := 72) (v := ?_) rfl rfl (by kernel_rfl) (by kernel_rfl) (by kernel_rfl) (fun _ _ _ h => h) (Or.inl ⟨by rfl, ?_⟩) (by assumption) ?_
        rotate_left 1
        · intro wz hSw
          obtain ⟨s0, s1, s2, s3, s4⟩ := hSw
          first | (go_simp; done) | (go_simp; with_reducible rfl)
        simp only [List.set_cons_zero, List.set_cons_succ]
        refine take_at (i := 7) (n := 73) (v := ?_) rfl rfl (by kernel_rfl) (by kernel_rfl) (by kernel_rfl) (fun _ _ _ h => h) (Or.inl ⟨by rfl, ?_⟩) (by assumption) ?_
        rotate_left 1
        · intro wz hSw
          obtain ⟨s0, s1, s2, s3, s4⟩ := hSw
          first | (go_simp; done) | (go_simp; with_reducible rfl)
        simp only [List.set_cons_zero, List.set_cons_succ]
        refine take_at (i := 8) (n := 74) (v := ?_) rfl rfl (by kernel_rfl) (by kernel_rfl) (by kernel_rfl) (fun _ _ _ h => h) (Or.inl ⟨by rfl, ?_⟩) (by assumption) ?_
        rotate_left 1
        · intro wz hSw
          obtain ⟨s0, s1, s2, s3, s4⟩ := hSw
          first | (go_simp; done) | (go_simp; with_reducible rfl)
        simp only [List.set_cons_zero, List.set_cons_succ]
        refine take_at (i := 9) (n := 75) (v := undef) rfl rfl (by kernel_rfl) (by kernel_rfl) (by kernel_rfl) (fun _ _ _ h => h) (Or.inr ⟨by rfl, rfl⟩) (by assumption) ?_
        simp only [List.set_cons_zero, List.set_cons_succ]
        refine take_at (i := 10) (n := 76) (v := undef) rfl rfl (by kernel_rfl) (by kernel_rfl) (by kernel_rfl) (fun _ _ _ h => h) (Or.inr ⟨by rfl, rfl⟩) (by assumption) ?_
        simp only [List.set_cons_zero, List.set_cons_succ]
        refine take_at (i := 11) (n := 77) (v := undef) rfl rfl (by kernel_rfl) (by kernel_rfl) (by kernel_rfl) (fun _ _ _ h => h) (Or.inr ⟨by rfl, rfl⟩) (by assumption) ?_
        simp only [List.set_cons_zero, List.set_cons_succ]
        refine take_at (i := 12) (n := 78) (v := undef) rfl rfl (by kernel_rfl) (by kernel_rfl) (by kernel_rfl) (fun _ _ _ h => h) (Or.inr ⟨by rfl, rfl⟩) (by assumption) ?_
        simp only [List.set_cons_zero, List.set_cons_succ]
        refine take_at (i := 13) (n := 79) (v := undef) rfl rfl (by kernel_rfl) (by kernel_rfl) (by kernel_rfl) (fun _ _ _ h => h) (Or.inr ⟨by rfl, rfl⟩) (by assumption) ?_
        simp only [List.set_cons_zero, List.set_cons_succ]
        refine take_at (i := 14) (n := 80) (v := ?_) rfl rfl (by kernel_rfl) (by kernel_rfl) (by kernel_rfl) (fun _ _ _ h => h) (Or.inl ⟨by rfl, ?_⟩) (by assumption) ?_
        rotate_left 1
        · intro wz hSw
          obtain ⟨s0, s1, s2, s3, s4⟩ := hSw
          first | (go_simp; done) | (go_simp; with_reducible rfl)
        simp only [List.set_cons_zero, List.set_cons_succ]
        refine take_at (i := 15) (n := 81) (v := ?_) rfl rfl (by kernel_rfl) (by kernel_rfl) (by kernel_rfl) (fun _ _ _ h => h) (Or.inl ⟨by rfl, ?_⟩) (by assumption) ?_
        rotate_left 1
        · intro wz hSw
          obtain ⟨s0, s1, s2, s3, s4⟩ := hSw
          first | (go_simp; done) | (go_simp; with_reducible rfl)
        simp only [List.set_cons_zero, List.set_cons_succ]
        refine take_at (i := 16) (n := 82) (v := undef) rfl rfl (by kernel_rfl) (by kernel_rfl) (by kernel_rfl) (fun _ _ _ h => h) (Or.inr ⟨by rfl, rfl⟩) (by assumption) ?_
        simp only [List.set_cons_zero, List.set_cons_succ]
        refine take_at (i := 17) (n := 83) (v := undef) rfl rfl (by kernel_rfl) (by kernel_rfl) (by kernel_rfl) (fun _ _ _ h => h) (Or.inr ⟨by rfl, rfl⟩) (by assumption) ?_
        simp only [List.set_cons_zero, List.set_cons_succ]
        refine take_at (i := 18) (n := 84) (v := undef) rfl rfl (by kernel_rfl) (by kernel_rfl) (by kernel_rfl) (fun _ _ _ h => h) (Or.inr ⟨by rfl, rfl⟩) (by assumption) ?_
        simp only [List.set_cons_zero, List.set_cons_succ]
        refine take_at (i := 19) (n := 85) (v := undef) rfl rfl (by kernel_rfl) (by kernel_rfl) (by kernel_rfl) (fun _ _ _ h => h) (Or.inr ⟨by rfl, rfl⟩) (by assumption) ?_
        simp only [List.set_cons_zero, List.set_cons_succ]
        refine take_at (i := 20) (n := 86) (v := undef) rfl rfl (by kernel_rfl) (by kernel_rfl) (by kernel_rfl) (fun _ _ _ h => h) (Or.inr ⟨by rfl, rfl⟩) (by assumption) ?_
        simp only [List.set_cons_zero, List.set_cons_succ]
        refine take_at (i := 21) (n := 87) (v := undef) rfl rfl (by kernel_rfl) (by kernel_rfl) (by kernel_rfl) (fun _ _ _ h => h) (Or.inr ⟨by rfl, rfl⟩) (by assumption) ?_
        simp only [List.set_cons_zero, List.set_cons_succ]
        refine take_at (i := 22) (n := 88) (v := undef) rfl rfl (by kernel_rfl) (by kernel_rfl) (by kernel_rfl) (fun _ _ _ h => h) (Or.inr ⟨by rfl, rfl⟩) (by assumption) ?_
        simp only [List.set_cons_zero, List.set_cons_succ]
        refine take_at (i := 23) (n := 89) (v := undef) rfl rfl (by kernel_rfl) (by kernel_rfl) (by kernel_rfl) (fun _ _ _ h => h) (Or.inr ⟨by rfl, rfl⟩) (by assumption) ?_
        simp only [List.set_cons_zero, List.set_cons_succ]
        refine take_at (i := 24) (n := 90) (v := undef) rfl rfl (by kernel_rfl) (by kernel_rfl) (by kernel_rfl) (fun _ _ _ h => h) (Or.inr ⟨by rfl, rfl⟩) (by assumption) ?_
        simp only [List.set_cons_zero, List.set_cons_succ]
        refine take_at (i := 25) (n := 91) (v := undef) rfl rfl (by kernel_rfl) (by kernel_rfl) (by kernel_rfl) (fun _ _ _ h => h) (Or.inr ⟨by rfl, rfl⟩) (by assumption) ?_
        simp only [List.set_cons_zero, List.set_cons_succ]
        refine take_at (i := 26) (n := 92) (v := undef) rfl rfl (by kernel_rfl) (by kernel_rfl) (by kernel_rfl) (fun _ _ _ h => h) (Or.inr ⟨by rfl, rfl⟩) (by assumption) ?_
        simp only [List.set_cons_zero, List.set_cons_succ]
        refine take_at (i := 27) (n := 93) (v := ?_) rfl rfl (by kernel_rfl) (by kernel_rfl) (by kernel_rfl) (fun _ _ _ h => h) (Or.inl ⟨by rfl, ?_⟩) (by assumption) ?_
        rotate_left 1
        · intro wz hSw
          obtain ⟨s0, s1, s2, s3, s4⟩ := hSw
          first | (go_simp; done) | (go_simp; with_reducible rfl)
        simp only [List.set_cons_zero, List.set_cons_succ]
        refine wpAnyH_done (by kernel_rfl) ?_ _
        refine NoPanic.normal ?_
        clear hHeld
        have HG : Hid (CB w w5.drew (.slice (some ⟨ab, ao, none⟩) set.length ac) (.slice (some ⟨bb, bo, none⟩) cs.length bc)) := HF2.out.grow (Below.refl _ _).drew
        generalize w5.drew = w6 at *
        clear bx0 cg0 cg1 cty cxh tl0 cl0
        go_wp2_with (go_at_call 33; refine (F_any _ _ _).mono ?_; rintro r w9 ⟨rfl, hb9⟩; have H9 : Hid (CB w w9 (.slice (some ⟨ab, ao, none⟩) set.length ac) (.slice (some ⟨bb, bo, none⟩) cs.length bc)) := HG.out.grow hb9; obtain ⟨qs, qf, ql⟩ := cells_of (l := [_, _]) H9.out.fb.res; have q0 := qs 0 _ rfl; have q1 := qs 1 _ rfl; have qf0 := qf 0; have qf1 := qf 1; clear qs qf; rw [hG] at q0 q1 qf0 qf1 ql; clear hb9)
        refine bodyPost_ret (PC_ends (g := G + 2) (c := .int .i64 3) (k := .int .i64 (j : Int)) (set_two (by rw [← hG]; exact H9.out.fb.res)) rfl rfl rfl rfl) rfl ?_
        have e := HX.out
        rw [HB.out, if_pos HE.out, if_neg (by decide)] at e
        obtain ⟨rfl, rfl⟩ := Prod.mk.inj e
        rw [← hG]
        exact ⟨rfl, H9.out.fb.set _ _⟩
      have a1b : decide (20000 < xa) = false := decide_eq_false a1
      by_cases y0 : y < 1
      · have y0b : decide (y < 1) = true := decide_eq_true y0
        have HE : Hid (within xa 0 20000 = false ∨ within y 1 xh = false) := by
          have e : within xa 0 20000 = false ∨ within y 1 xh = false := .inr (by unfold within; simp; omega)
          exact e
        refine wp_region_noPanic ?_
        refine wp_region_held_drew (S := fun w' => w'.cell? ⟨G, 0, none⟩ = some (.slice (some ⟨ab, ao, none⟩) set.length ac) ∧ w'.cell? ⟨cg, 0, none⟩ = some (.int .i64 (k : Int)) ∧ w'.cell? ⟨cg, 1, none⟩ = some (.int .i64 xa) ∧ w'.cell? ⟨tb, to' + j, none⟩ = some (.int .i64 y) ∧ w'.cell? ⟨ab, ao + k * 6 + 1, none⟩ = some (.int .i64 xh)) (by kernel_rfl) ⟨bx0, cg0, cg1, cty, cxh⟩ (fun hHeld => ?_)
        refine take_at (i := 0) (n := 66) (v := ?_) rfl rfl (by kernel_rfl) (by kernel_rfl) (by kernel_rfl) (fun _ _ _ h => h) (Or.inl ⟨by rfl, ?_⟩) (by assumption) ?_
        rotate_left 1
        · intro wz hSw
          obtain ⟨s0, s1, s2, s3, s4⟩ := hSw
          first | (go_simp; done) | (go_simp; with_reducible rfl)
        simp only [List.set_cons_zero, List.set_cons_succ]
        refine take_at (i := 1) (n := 67) (v := ?_) rfl rfl (by kernel_rfl) (by kernel_rfl) (by kernel_rfl) (fun _ _ _ h => h) (Or.inl ⟨by rfl, ?_⟩) (by assumption) ?_
        rotate_left 1
        · intro wz hSw
          obtain ⟨s0, s1, s2, s3, s4⟩ := hSw
          first | (go_simp; done) | (go_simp; with_reducible rfl)
        simp only [List.set_cons_zero, List.set_cons_succ]
        refine take_at (i := 2) (n := 68) (v := ?_) rfl rfl (by kernel_rfl) (by kernel_rfl) (by kernel_rfl) (fun _ _ _ h => h) (Or.inl ⟨by rfl, ?_⟩) (by assumption) ?_
        rotate_left 1
        · intro wz hSw
          obtain ⟨s0, s1, s2, s3, s4⟩ := hSw
          first | (go_simp; done) | (go_simp; with_reducible rfl)
        simp only [List.set_cons_zero, List.set_cons_succ]
        refine take_at (i := 3) (n := 69) (v := ?_) rfl rfl (by kernel_rfl) (by kernel_rfl) (by kernel_rfl) (fun _ _ _ h => h) (Or.inl ⟨by rfl, ?_⟩) (by assumption) ?_
        rotate_left 1
        · intro wz hSw
          obtain ⟨s0, s1, s2, s3, s4⟩ := hSw
          first | (go_simp; done) | (go_simp; with_reducible rfl)
        simp only [List.set_cons_zero, List.set_cons_succ]
        refine take_at (i := 4) (n := 70) (v := ?_) rfl rfl (by kernel_rfl) (by kernel_rfl) (by kernel_rfl) (fun _ _ _ h => h) (Or.inl ⟨by rfl, ?_⟩) (by assumption) ?_
        rotate_left 1
        · intro wz hSw
          obtain ⟨s0, s1, s2, s3, s4⟩ := hSw
          first | (go_simp; done) | (go_simp; with_reducible rfl)
        simp only [List.set_cons_zero, List.set_cons_succ]
        refine take_at (i := 5) (n := 71) (v := ?_) rfl rfl (by kernel_rfl) (by kernel_rfl) (by kernel_rfl) (fun _ _ _ h => h) (Or.inl ⟨by rfl, ?_⟩) (by assumption) ?_
        rotate_left 1
        · intro wz hSw
          obtain ⟨s0, s1, s2, s3, s4⟩ := hSw
          first | (go_simp; done) | (go_simp; with_reducible rfl)
        simp only [List.set_cons_zero, List.set_cons_succ]
        refine take_at (i := 6) (n := 72) (v := ?_) rfl rfl (by kernel_rfl) (by kernel_rfl) (by kernel_rfl) (fun _ _ _ h => h) (Or.inl ⟨by rfl, ?_⟩) (by assumption) ?_
        rotate_left 1
        · intro wz hSw
          obtain ⟨s0, s1, s2, s3, s4⟩ := hSw
          first | (go_simp; done) | (go_simp; with_reducible rfl)
        simp only [List.set_cons_zero, List.set_cons_succ]
        refine take_at (i := 7) (n := 73) (v := ?_) rfl rfl (by kernel_rfl) (by kernel_rfl) (by kernel_rfl) (fun _ _ _ h => h) (Or.inl ⟨by rfl, ?_⟩) (by assumption) ?_
        rotate_left 1
        · intro wz hSw
          obtain ⟨s0, s1, s2, s3, s4⟩ := hSw
          first | (go_simp; done) | (go_simp; with_reducible rfl)
        simp only [List.set_cons_zero, List.set_cons_succ]
        refine take_at (i := 8) (n := 74) (v := ?_) rfl rfl (by kernel_rfl) (by kernel_rfl) (by kernel_rfl) (fun _ _ _ h => h) (Or.inl ⟨by rfl, ?_⟩) (by assumption) ?_
        rotate_left 1
        · intro wz hSw
          obtain ⟨s0, s1, s2, s3, s4⟩ := hSw
          first | (go_simp; done) | (go_simp; with_reducible rfl)
        simp only [List.set_cons_zero, List.set_cons_succ]
        refine take_at (i := 9) (n := 75) (v := ?_) rfl rfl (by kernel_rfl) (by kernel_rfl) (by kernel_rfl) (fun _ _ _ h => h) (Or.inl ⟨by rfl, ?_⟩) (by assumption) ?_
        rotate_left 1
        · intro wz hSw
          obtain ⟨s0, s1, s2, s3, s4⟩ := hSw
          first | (go_simp; done) | (go_simp; with_reducible rfl)
        simp only [List.set_cons_zero, List.set_cons_succ]
        refine take_at (i := 10) (n := 76) (v := ?_) rfl rfl (by kernel_rfl) (by kernel_rfl) (by kernel_rfl) (fun _ _ _ h => h) (Or.inl ⟨by rfl, ?_⟩) (by assumption) ?_
        rotate_left 1
        · intro wz hSw
          obtain ⟨s0, s1, s2, s3, s4⟩ := hSw
          first | (go_simp; done) | (go_simp; with_reducible rfl)
        simp only [List.set_cons_zero, List.set_cons_succ]
        refine take_at (i := 11) (n := 77) (v := ?_) rfl rfl (by kernel_rfl) (by kernel_rfl) (by kernel_rfl) (fun _ _ _ h => h) (Or.inl ⟨by rfl, ?_⟩) (by assumption) ?_
        rotate_left 1
        · intro wz hSw
          obtain ⟨s0, s1, s2, s3, s4⟩ := hSw
          first | (go_simp; done) | (go_simp; with_reducible rfl)
        simp only [List.set_cons_zero, List.set_cons_succ]
        refine take_at (i := 12) (n := 78) (v := ?_) rfl rfl (by kernel_rfl) (by kernel_rfl) (by kernel_rfl) (fun _ _ _ h => h) (Or.inl ⟨by rfl, ?_⟩) (by assumption) ?_
        rotate_left 1
        · intro wz hSw
          obtain ⟨s0, s1, s2, s3, s4⟩ := hSw
          first | (go_simp; done) | (go_simp; with_reducible rfl)
        simp only [List.set_cons_zero, List.set_cons_succ]
        refine take_at (i := 13) (n := 79) (v := ?_) rfl rfl (by kernel_rfl) (by kernel_rfl) (by kernel_rfl) (fun _ _ _ h => h) (Or.inl ⟨by rfl, ?_⟩) (by assumption) ?_
        rotate_left 1
        · intro wz hSw
          obtain ⟨s0, s1, s2, s3, s4⟩ := hSw
          first | (go_simp; done) | (go_simp; with_reducible rfl)
        simp only [List.set_cons_zero, List.set_cons_succ]
        refine take_at (i := 14) (n := 80) (v := ?_) rfl rfl (by kernel_rfl) (by kernel_rfl) (by kernel_rfl) (fun _ _ _ h => h) (Or.inl ⟨by rfl, ?_⟩) (by assumption) ?_
        rotate_left 1
        · intro wz hSw
          obtain ⟨s0, s1, s2, s3, s4⟩ := hSw
          first | (go_simp; done) | (go_simp; with_reducible rfl)
        simp only [List.set_cons_zero, List.set_cons_succ]
        refine take_at (i := 15) (n := 81) (v := ?_) rfl rfl (by kernel_rfl) (by kernel_rfl) (by kernel_rfl) (fun _ _ _ h => h) (Or.inl ⟨by rfl, ?_⟩) (by assumption) ?_
        rotate_left 1
        · intro wz hSw
          obtain ⟨s0, s1, s2, s3, s4⟩ := hSw
          first | (go_simp; done) | (go_simp; with_reducible rfl)
        simp only [List.set_cons_zero, List.set_cons_succ]
        refine take_at (i := 16) (n := 82) (v := undef) rfl rfl (by kernel_rfl) (by kernel_rfl) (by kernel_rfl) (fun _ _ _ h => h) (Or.inr ⟨by rfl, rfl⟩) (by assumption) ?_
        simp only [List.set_cons_zero, List.set_cons_succ]
        refine take_at (i := 17) (n := 83) (v := undef) rfl rfl (by kernel_rfl) (by kernel_rfl) (by kernel_rfl) (fun _ _ _ h => h) (Or.inr ⟨by rfl, rfl⟩) (by assumption) ?_
        simp only [List.set_cons_zero, List.set_cons_succ]
        refine take_at (i := 18) (n := 84) (v := undef) rfl rfl (by kernel_rfl) (by kernel_rfl) (by kernel_rfl) (fun _ _ _ h => h) (Or.inr ⟨by rfl, rfl⟩) (by assumption) ?_
        simp only [List.set_cons_zero, List.set_cons_succ]
        refine take_at (i := 19) (n := 85) (v := undef) rfl rfl (by kernel_rfl) (by kernel_rfl) (by kernel_rfl) (fun _ _ _ h => h) (Or.inr ⟨by rfl, rfl⟩) (by assumption) ?_
        simp only [List.set_cons_zero, List.set_cons_succ]
        refine take_at (i := 20) (n := 86) (v := undef) rfl rfl (by kernel_rfl) (by kernel_rfl) (by kernel_rfl) (fun _ _ _ h => h) (Or.inr ⟨by rfl, rfl⟩) (by assumption) ?_
        simp only [List.set_cons_zero, List.set_cons_succ]
        refine take_at (i := 21) (n := 87) (v := undef) rfl rfl (by kernel_rfl) (by kernel_rfl) (by kernel_rfl) (fun _ _ _ h => h) (Or.inr ⟨by rfl, rfl⟩) (by assumption) ?_
        simp only [List.set_cons_zero, List.set_cons_succ]
        refine take_at (i := 22) (n := 88) (v := undef) rfl rfl (by kernel_rfl) (by kernel_rfl) (by kernel_rfl) (fun _ _ _ h => h) (Or.inr ⟨by rfl, rfl⟩) (by assumption) ?_
        simp only [List.set_cons_zero, List.set_cons_succ]
        refine take_at (i := 23) (n := 89) (v := undef) rfl rfl (by kernel_rfl) (by kernel_rfl) (by kernel_rfl) (fun _ _ _ h => h) (Or.inr ⟨by rfl, rfl⟩) (by assumption) ?_
        simp only [List.set_cons_zero, List.set_cons_succ]
        refine take_at (i := 24) (n := 90) (v := undef) rfl rfl (by kernel_rfl) (by kernel_rfl) (by kernel_rfl) (fun _ _ _ h => h) (Or.inr ⟨by rfl, rfl⟩) (by assumption) ?_
        simp only [List.set_cons_zero, List.set_cons_succ]
        refine take_at (i := 25) (n := 91) (v := undef) rfl rfl (by kernel_rfl) (by kernel_rfl) (by kernel_rfl) (fun _ _ _ h => h) (Or.inr ⟨by rfl, rfl⟩) (by assumption) ?_
        simp only [List.set_cons_zero, List.set_cons_succ]
        refine take_at (i := 26) (n := 92) (v := undef) rfl rfl (by kernel_rfl) (by kernel_rfl) (by kernel_rfl) (fun _ _ _ h => h) (Or.inr ⟨by rfl, rfl⟩) (by assumption) ?_
        simp only [List.set_cons_zero, List.set_cons_succ]
        refine take_at (i := 27) (n := 93) (v := ?_) rfl rfl (by kernel_rfl) (by kernel_rfl) (by kernel_rfl) (fun _ _ _ h => h) (Or.inl ⟨by rfl, ?_⟩) (by assumption) ?_
        rotate_left 1
        · intro wz hSw
          obtain ⟨s0, s1, s2, s3, s4⟩ := hSw
          first | (go_simp; done) | (go_simp; with_reducible rfl)
        simp only [List.set_cons_zero, List.set_cons_succ]
        refine wpAnyH_done (by kernel_rfl) ?_ _
        refine NoPanic.normal ?_
        clear hHeld
        have HG : Hid (CB w w5.drew (.slice (some ⟨ab, ao, none⟩) set.length ac) (.slice (some ⟨bb, bo, none⟩) cs.length bc)) := HF2.out.grow (Below.refl _ _).drew
        generalize w5.drew = w6 at *
        clear bx0 cg0 cg1 cty cxh tl0 cl0
        go_wp2_with (go_at_call 33; refine (F_any _ _ _).mono ?_; rintro r w9 ⟨rfl, hb9⟩; have H9 : Hid (CB w w9 (.slice (some ⟨ab, ao, none⟩) set.length ac) (.slice (some ⟨bb, bo, none⟩) cs.length bc)) := HG.out.grow hb9; obtain ⟨qs, qf, ql⟩ := cells_of (l := [_, _]) H9.out.fb.res; have q0 := qs 0 _ rfl; have q1 := qs 1 _ rfl; have qf0 := qf 0; have qf1 := qf 1; clear qs qf; rw [hG] at q0 q1 qf0 qf1 ql; clear hb9)
        refine bodyPost_ret (PC_ends (g := G + 2) (c := .int .i64 3) (k := .int .i64 (j : Int)) (set_two (by rw [← hG]; exact H9.out.fb.res)) rfl rfl rfl rfl) rfl ?_
        have e := HX.out
        rw [HB.out, if_pos HE.out, if_neg (by decide)] at e
        obtain ⟨rfl, rfl⟩ := Prod.mk.inj e
        rw [← hG]
        exact ⟨rfl, H9.out.fb.set _ _⟩
      have y0b : decide (y < 1) = false := decide_eq_false y0
      by_cases y1' : xh < y
      · have y1b : decide (xh < y) = true := decide_eq_true y1'
        have HE : Hid (within xa 0 20000 = false ∨ within y 1 xh = false) := by
          have e : within xa 0 20000 = false ∨ within y 1 xh = false := .inr (by unfold within; simp; omega)
          exact e
        refine wp_region_noPanic ?_
        refine wp_region_held_drew (S := fun w' => w'.cell? ⟨G, 0, none⟩ = some (.slice (some ⟨ab, ao, none⟩) set.length ac) ∧ w'.cell? ⟨cg, 0, none⟩ = some (.int .i64 (k : Int)) ∧ w'.cell? ⟨cg, 1, none⟩ = some (.int .i64 xa) ∧ w'.cell? ⟨tb, to' + j, none⟩ = some (.int .i64 y) ∧ w'.cell? ⟨ab, ao + k * 6 + 1, none⟩ = some (.int .i64 xh)) (by kernel_rfl) ⟨bx0, cg0, cg1, cty, cxh⟩ (fun hHeld => ?_)
        refine take_at (i := 0) (n := 66) (v := ?_) rfl rfl (by kernel_rfl) (by kernel_rfl) (by kernel_rfl) (fun _ _ _ h => h) (Or.inl ⟨by rfl, ?_⟩) (by assumption) ?_
        rotate_left 1
        · intro wz hSw
          obtain ⟨s0, s1, s2, s3, s4⟩ := hSw
          first | (go_simp; done) | (go_simp; with_reducible rfl)
        simp only [List.set_cons_zero, List.set_cons_succ]
        refine take_at (i := 1) (n := 67) (v := ?_) rfl rfl (by kernel_rfl) (by kernel_rfl) (by kernel_rfl) (fun _ _ _ h => h) (Or.inl ⟨by rfl, ?_⟩) (by assumption) ?_
        rotate_left 1
        · intro wz hSw
          obtain ⟨s0, s1, s2, s3, s4⟩ := hSw
          first | (go_simp; done) | (go_simp; with_reducible rfl)
        simp only [List.set_cons_zero, List.set_cons_succ]
        refine take_at (i := 2) (n := 68) (v := ?_) rfl rfl (by kernel_rfl) (by kernel_rfl) (by kernel_rfl) (fun _ _ _ h => h) (Or.inl ⟨by rfl, ?_⟩) (by assumption) ?_
        rotate_left 1
        · intro wz hSw
          obtain ⟨s0, s1, s2, s3, s4⟩ := hSw
          first | (go_simp; done) | (go_simp; with_reducible rfl)
        simp only [List.set_cons_zero, List.set_cons_succ]
        refine take_at (i := 3) (n := 69) (v := ?_) rfl rfl (by kernel_rfl) (by kernel_rfl) (by kernel_rfl) (fun _ _ _ h => h) (Or.inl ⟨by rfl, ?_⟩) (by assumption) ?_
        rotate_left 1
        · intro wz hSw
          obtain ⟨s0, s1, s2, s3, s4⟩ := hSw
          first | (go_simp; done) | (go_simp; with_reducible rfl)
        simp only [List.set_cons_zero, List.set_cons_succ]
        refine take_at (i := 4) (n := 70) (v := ?_) rfl rfl (by kernel_rfl) (by kernel_rfl) (by kernel_rfl) (fun _ _ _ h => h) (Or.inl ⟨by rfl, ?_⟩) (by assumption) ?_
        rotate_left 1
        · intro wz hSw
          obtain ⟨s0, s1, s2, s3, s4⟩ := hSw
          first | (go_simp; done) | (go_simp; with_reducible rfl)
        simp only [List.set_cons_zero, List.set_cons_succ]
        refine take_at (i := 5) (n := 71) (v := ?_) rfl rfl (by kernel_rfl) (by kernel_rfl) (by kernel_rfl) (fun _ _ _ h => h) (Or.inl ⟨by rfl, ?_⟩) (by assumption) ?_
        rotate_left 1
        · intro wz hSw
          obtain ⟨s0, s1, s2, s3, s4⟩ := hSw
          first | (go_simp; done) | (go_simp; with_reducible rfl)
        simp only [List.set_cons_zero, List.set_cons_succ]
        refine take_at (i := 6) (n := 72) (v := ?_) rfl rfl (by kernel_rfl) (by kernel_rfl) (by kernel_rfl) (fun _ _ _ h => h) (Or.inl ⟨by rfl, ?_⟩) (by assumption) ?_
        rotate_left 1
        · intro wz hSw
          obtain ⟨s0, s1, s2, s3, s4⟩ := hSw
          first | (go_simp; done) | (go_simp; with_reducible rfl)
        simp only [List.set_cons_zero, List.set_cons_succ]
        refine take_at (i := 7) (n := 73) (v := ?_) rfl rfl (by kernel_rfl) (by kernel_rfl) (by kernel_rfl) (fun _ _ _ h => h) (Or.inl ⟨by rfl, ?_⟩) (by assumption) ?_
        rotate_left 1
        · intro wz hSw
          obtain ⟨s0, s1, s2, s3, s4⟩ := hSw
          first | (go_simp; done) | (go_simp; with_reducible rfl)
        simp only [List.set_cons_zero, List.set_cons_succ]
        refine take_at (i := 8) (n := 74) (v := ?_) rfl rfl (by kernel_rfl) (by kernel_rfl) (by kernel_rfl) (fun _ _ _ h => h) (Or.inl ⟨by rfl, ?_⟩) (by assumption) ?_
        rotate_left 1
        · intro wz hSw
          obtain ⟨s0, s1, s2, s3, s4⟩ := hSw
          first | (go_simp; done) | (go_simp; with_reducible rfl)
        simp only [List.set_cons_zero, List.set_cons_succ]
        refine take_at (i := 9) (n := 75) (v := ?_) rfl rfl (by kernel_rfl) (by kernel_rfl) (by kernel_rfl) (fun _ _ _ h => h) (Or.inl ⟨by rfl, ?_⟩) (by assumption) ?_
        rotate_left 1
        · intro wz hSw
          obtain ⟨s0, s1, s2, s3, s4⟩ := hSw
          first | (go_simp; done) | (go_simp; with_reducible rfl)
        simp only [List.set_cons_zero, List.set_cons_succ]
        refine take_at (i := 10) (n := 76) (v := ?_) rfl rfl (by kernel_rfl) (by kernel_rfl) (by kernel_rfl) (fun _ _ _ h => h) (Or.inl ⟨by rfl, ?_⟩) (by assumption) ?_
        rotate_left 1
        · intro wz hSw
          obtain ⟨s0, s1, s2, s3, s4⟩ := hSw
          first | (go_simp; done) | (go_simp; with_reducible rfl)
        simp only [List.set_cons_zero, List.set_cons_succ]
        refine take_at (i := 11) (n := 77) (v := ?_) rfl rfl (by kernel_rfl) (by kernel_rfl) (by kernel_rfl) (fun _ _ _ h => h) (Or.inl ⟨by rfl, ?_⟩) (by assumption) ?_
        rotate_left 1
        · intro wz hSw
          obtain ⟨s0, s1, s2, s3, s4⟩ := hSw
          first | (go_simp; done) | (go_simp; with_reducible rfl)
        simp only [List.set_cons_zero, List.set_cons_succ]
        refine take_at (i := 12) (n := 78) (v := ?_) rfl rfl (by kernel_rfl) (by kernel_rfl) (by kernel_rfl) (fun _ _ _ h => h) (Or.inl ⟨by rfl, ?_⟩) (by assumption) ?_
        rotate_left 1
        · intro wz hSw
          obtain ⟨s0, s1, s2, s3, s4⟩ := hSw
          first | (go_simp; done) | (go_simp; with_reducible rfl)
        simp only [List.set_cons_zero, List.set_cons_succ]
        refine take_at (i := 13) (n := 79) (v := ?_) rfl rfl (by kernel_rfl) (by kernel_rfl) (by kernel_rfl) (fun _ _ _ h => h) (Or.inl ⟨by rfl, ?_⟩) (by assumption) ?_
        rotate_left 1
        · intro wz hSw
          obtain ⟨s0, s1, s2, s3, s4⟩ := hSw
          first | (go_simp; done) | (go_simp; with_reducible rfl)
        simp only [List.set_cons_zero, List.set_cons_succ]
        refine take_at (i := 14) (n := 80) (v := ?_) rfl rfl (by kernel_rfl) (by kernel_rfl) (by kernel_rfl) (fun _ _ _ h => h) (Or.inl ⟨by rfl, ?_⟩) (by assumption) ?_
        rotate_left 1
        · intro wz hSw
          obtain ⟨s0, s1, s2, s3, s4⟩ := hSw
          first | (go_simp; done) | (go_simp; with_reducible rfl)
        simp only [List.set_cons_zero, List.set_cons_succ]
        refine take_at (i := 15) (n := 81) (v := ?_) rfl rfl (by kernel_rfl) (by kernel_rfl) (by kernel_rfl) (fun _ _ _ h => h) (Or.inl ⟨by rfl, ?_⟩) (by assumption) ?_
        rotate_left 1
        · intro wz hSw
          obtain ⟨s0, s1, s2, s3, s4⟩ := hSw
          first | (go_simp; done) | (go_simp; with_reducible rfl)
        simp only [List.set_cons_zero, List.set_cons_succ]
        refine take_at (i := 16) (n := 82) (v := ?_) rfl rfl (by kernel_rfl) (by kernel_rfl) (by kernel_rfl) (fun _ _ _ h => h) (Or.inl ⟨by rfl, ?_⟩) (by assumption) ?_
        rotate_left 1
        · intro wz hSw
          obtain ⟨s0, s1, s2, s3, s4⟩ := hSw
          first | (go_simp; done) | (go_simp; with_reducible rfl)
        simp only [List.set_cons_zero, List.set_cons_succ]
        refine take_at (i := 17) (n := 83) (v := ?_) rfl rfl (by kernel_rfl) (by kernel_rfl) (by kernel_rfl) (fun _ _ _ h => h) (Or.inl ⟨by rfl, ?_⟩) (by assumption) ?_
        rotate_left 1
        · intro wz hSw
          obtain ⟨s0, s1, s2, s3, s4⟩ := hSw
          first | (go_simp; done) | (go_simp; with_reducible rfl)
        simp only [List.set_cons_zero, List.set_cons_succ]
        refine take_at (i := 18) (n := 84) (v := ?_) rfl rfl (by kernel_rfl) (by kernel_rfl) (by kernel_rfl) (fun _ _ _ h => h) (Or.inl ⟨by rfl, ?_⟩) (by assumption) ?_
        rotate_left 1
        · intro wz hSw
          obtain ⟨s0, s1, s2, s3, s4⟩ := hSw
          first | (go_simp; done) | (go_simp; with_reducible rfl)
        simp only [List.set_cons_zero, List.set_cons_succ]
        refine take_at (i := 19) (n := 85) (v := ?_) rfl rfl (by kernel_rfl) (by kernel_rfl) (by kernel_rfl) (fun _ _ _ h => h) (Or.inl ⟨by rfl, ?_⟩) (by assumption) ?_
        rotate_left 1
        · intro wz hSw
          obtain ⟨s0, s1, s2, s3, s4⟩ := hSw
          first | (go_simp; done) | (go_simp; with_reducible rfl)
        simp only [List.set_cons_zero, List.set_cons_succ]
        refine take_at (i := 20) (n := 86) (v := ?_) rfl rfl (by kernel_rfl) (by kernel_rfl) (by kernel_rfl) (fun _ _ _ h => h) (Or.inl ⟨by rfl, ?_⟩) (by assumption) ?_
        rotate_left 1
        · intro wz hSw
          obtain ⟨s0, s1, s2, s3, s4⟩ := hSw
          first | (go_simp; done) | (go_simp; with_reducible rfl)
        simp only [List.set_cons_zero, List.set_cons_succ]
        refine take_at (i := 21) (n := 87) (v := ?_) rfl rfl (by kernel_rfl) (by kernel_rfl) (by kernel_rfl) (fun _ _ _ h => h) (Or.inl ⟨by rfl, ?_⟩) (by assumption) ?_
        rotate_left 1
        · intro wz hSw
          obtain ⟨s0, s1, s2, s3, s4⟩ := hSw
          first | (go_simp; done) | (go_simp; with_reducible rfl)
        simp only [List.set_cons_zero, List.set_cons_succ]
        refine take_at (i := 22) (n := 88) (v := ?_) rfl rfl (by kernel_rfl) (by kernel_rfl) (by kernel_rfl) (fun _ _ _ h => h) (Or.inl ⟨by rfl, ?_⟩) (by assumption) ?_
        rotate_left 1
        · intro wz hSw
          obtain ⟨s0, s1, s2, s3, s4⟩ := hSw
          first | (go_simp; done) | (go_simp; with_reducible rfl)
        simp only [List.set_cons_zero, List.set_cons_succ]
        refine take_at (i := 23) (n := 89) (v := ?_) rfl rfl (by kernel_rfl) (by kernel_rfl) (by kernel_rfl) (fun _ _ _ h => h) (Or.inl ⟨by rfl, ?_⟩) (by assumption) ?_
        rotate_left 1
        · intro wz hSw
          obtain ⟨s0, s1, s2, s3, s4⟩ := hSw
          first | (go_simp; done) | (go_simp; with_reducible rfl)
        simp only [List.set_cons_zero, List.set_cons_succ]
        refine take_at (i := 24) (n := 90) (v := ?_) rfl rfl (by kernel_rfl) (by kernel_rfl) (by kernel_rfl) (fun _ _ _ h => h) (Or.inl ⟨by rfl, ?_⟩) (by assumption) ?_
        rotate_left 1
        · intro wz hSw
          obtain ⟨s0, s1, s2, s3, s4⟩ := hSw
          first | (go_simp; done) | (go_simp; with_reducible rfl)
        simp only [List.set_cons_zero, List.set_cons_succ]
        refine take_at (i := 25) (n := 91) (v := ?_) rfl rfl (by kernel_rfl) (by kernel_rfl) (by kernel_rfl) (fun _ _ _ h => h) (Or.inl ⟨by rfl, ?_⟩) (by assumption) ?_
        rotate_left 1
        · intro wz hSw
          obtain ⟨s0, s1, s2, s3, s4⟩ := hSw
          first | (go_simp; done) | (go_simp; with_reducible rfl)
        simp only [List.set_cons_zero, List.set_cons_succ]
        refine take_at (i := 26) (n := 92) (v := ?_) rfl rfl (by kernel_rfl) (by kernel_rfl) (by kernel_rfl) (fun _ _ _ h => h) (Or.inl ⟨by rfl, ?_⟩) (by assumption) ?_
        rotate_left 1
        · intro wz hSw
          obtain ⟨s0, s1, s2, s3, s4⟩ := hSw
          first | (go_simp; done) | (go_simp; with_reducible rfl)
        simp only [List.set_cons_zero, List.set_cons_succ]
        refine take_at (i := 27) (n := 93) (v := ?_) rfl rfl (by kernel_rfl) (by kernel_rfl) (by kernel_rfl) (fun _ _ _ h => h) (Or.inl ⟨by rfl, ?_⟩) (by assumption) ?_
        rotate_left 1
        · intro wz hSw
          obtain ⟨s0, s1, s2, s3, s4⟩ := hSw
          first | (go_simp; done) | (go_simp; with_reducible rfl)
        simp only [List.set_cons_zero, List.set_cons_succ]
        refine wpAnyH_done (by kernel_rfl) ?_ _
        refine NoPanic.normal ?_
        clear hHeld
        have HG : Hid (CB w w5.drew (.slice (some ⟨ab, ao, none⟩) set.length ac) (.slice (some ⟨bb, bo, none⟩) cs.length bc)) := HF2.out.grow (Below.refl _ _).drew
        generalize w5.drew = w6 at *
        clear bx0 cg0 cg1 cty cxh tl0 cl0
        go_wp2_with (go_at_call 33; refine (F_any _ _ _).mono ?_; rintro r w9 ⟨rfl, hb9⟩; have H9 : Hid (CB w w9 (.slice (some ⟨ab, ao, none⟩) set.length ac) (.slice (some ⟨bb, bo, none⟩) cs.length bc)) := HG.out.grow hb9; obtain ⟨qs, qf, ql⟩ := cells_of (l := [_, _]) H9.out.fb.res; have q0 := qs 0 _ rfl; have q1 := qs 1 _ rfl; have qf0 := qf 0; have qf1 := qf 1; clear qs qf; rw [hG] at q0 q1 qf0 qf1 ql; clear hb9)
        refine bodyPost_ret (PC_ends (g := G + 2) (c := .int .i64 3) (k := .int .i64 (j : Int)) (set_two (by rw [← hG]; exact H9.out.fb.res)) rfl rfl rfl rfl) rfl ?_
        have e := HX.out
        rw [HB.out, if_pos HE.out, if_neg (by decide)] at e
        obtain ⟨rfl, rfl⟩ := Prod.mk.inj e
        rw [← hG]
        exact ⟨rfl, H9.out.fb.set _ _⟩
      have y1b : decide (xh < y) = false := decide_eq_false y1'
      have HE : Hid (¬ (within xa 0 20000 = false ∨ within y 1 xh = false)) := by
        have e : ¬ (within xa 0 20000 = false ∨ within y 1 xh = false) := by unfold within; simp; omega
        exact e
      refine wp_region_noPanic ?_
      refine wp_region_held_drew (S := fun w' => w'.cell? ⟨G, 0, none⟩ = some (.slice (some ⟨ab, ao, none⟩) set.length ac) ∧ w'.cell? ⟨cg, 0, none⟩ = some (.int .i64 (k : Int)) ∧ w'.cell? ⟨cg, 1, none⟩ = some (.int .i64 xa) ∧ w'.cell? ⟨tb, to' + j, none⟩ = some (.int .i64 y) ∧ w'.cell? ⟨ab, ao + k * 6 + 1, none⟩ = some (.int .i64 xh)) (by kernel_rfl) ⟨bx0, cg0, cg1, cty, cxh⟩ (fun hHeld => ?_)
      refine take_at (i := 0) (n := 66) (v := ?_) rfl rfl (by kernel_rfl) (by kernel_rfl) (by kernel_rfl) (fun _ _ _ h => h) (Or.inl ⟨by rfl, ?_⟩) (by assumption) ?_
      rotate_left 1
      · intro wz hSw
        obtain ⟨s0, s1, s2, s3, s4⟩ := hSw
        first | (go_simp; done) | (go_simp; with_reducible rfl)
      simp only [List.set_cons_zero, List.set_cons_succ]
      refine take_at (i := 1) (n := 67) (v := ?_) rfl rfl (by kernel_rfl) (by kernel_rfl) (by kernel_rfl) (fun _ _ _ h => h) (Or.inl ⟨by rfl, ?_⟩) (by assumption) ?_
      rotate_left 1
      · intro wz hSw
        obtain ⟨s0, s1, s2, s3, s4⟩ := hSw
        first | (go_simp; done) | (go_simp; with_reducible rfl)
      simp only [List.set_cons_zero, List.set_cons_succ]
      refine take_at (i := 2) (n := 68) (v := ?_) rfl rfl (by kernel_rfl) (by kernel_rfl) (by kernel_rfl) (fun _ _ _ h => h) (Or.inl ⟨by rfl, ?_⟩) (by assumption) ?_
      rotate_left 1
      · intro wz hSw
        obtain ⟨s0, s1, s2, s3, s4⟩ := hSw
        first | (go_simp; done) | (go_simp; with_reducible rfl)
      simp only [List.set_cons_zero, List.set_cons_succ]
      refine take_at (i := 3) (n := 69) (v := ?_) rfl rfl (by kernel_rfl) (by kernel_rfl) (by kernel_rfl) (fun _ _ _ h => h) (Or.inl ⟨by rfl, ?_⟩) (by assumption) ?_
      rotate_left 1
      · intro wz hSw
        obtain ⟨s0, s1, s2, s3, s4⟩ := hSw
        first | (go_simp; done) | (go_simp; with_reducible rfl)
      simp only [List.set_cons_zero, List.set_cons_succ]
      refine take_at (i := 4) (n := 70) (v := ?_) rfl rfl (by kernel_rfl) (by kernel_rfl) (by kernel_rfl) (fun _ _ _ h => h) (Or.inl ⟨by rfl, ?_⟩) (by assumption) ?_
      rotate_left 1
      · intro wz hSw
        obtain ⟨s0, s1, s2, s3, s4⟩ := hSw
        first | (go_simp; done) | (go_simp; with_reducible rfl)
      simp only [List.set_cons_zero, List.set_cons_succ]
      refine take_at (i := 5) (n := 71) (v := ?_) rfl rfl (by kernel_rfl) (by kernel_rfl) (by kernel_rfl) (fun _ _ _ h => h) (Or.inl ⟨by rfl, ?_⟩) (by assumption) ?_
      rotate_left 1
      · intro wz hSw
        obtain ⟨s0, s1, s2, s3, s4⟩ := hSw
        first | (go_simp; done) | (go_simp; with_reducible rfl)
      simp only [List.set_cons_zero, List.set_cons_succ]
      refine take_at (i := 6) (n := 72) (v := ?_) rfl rfl (by kernel_rfl) (by kernel_rfl) (by kernel_rfl) (fun _ _ _ h => h) (Or.inl ⟨by rfl, ?_⟩) (by assumption) ?_
      rotate_left 1
      · intro wz hSw
        obtain ⟨s0, s1, s2, s3, s4⟩ := hSw
        first | (go_simp; done) | (go_simp; with_reducible rfl)
      simp only [List.set_cons_zero, List.set_cons_succ]
      refine take_at (i := 7) (n := 73) (v := ?_) rfl rfl (by kernel_rfl) (by kernel_rfl) (by kernel_rfl) (fun _ _ _ h => h) (Or.inl ⟨by rfl, ?_⟩) (by assumption) ?_
      rotate_left 1
      · intro wz hSw
        obtain ⟨s0, s1, s2, s3, s4⟩ := hSw
        first | (go_simp; done) | (go_simp; with_reducible rfl)
      simp only [List.set_cons_zero, List.set_cons_succ]
      refine take_at (i := 8) (n := 74) (v := ?_) rfl rfl (by kernel_rfl) (by kernel_rfl) (by kernel_rfl) (fun _ _ _ h => h) (Or.inl ⟨by rfl, ?_⟩) (by assumption) ?_
      rotate_left 1
      · intro wz hSw
        obtain ⟨s0, s1, s2, s3, s4⟩ := hSw
        first | (go_simp; done) | (go_simp; with_reducible rfl)
      simp only [List.set_cons_zero, List.set_cons_succ]
      refine take_at (i := 9) (n := 75) (v := ?_) rfl rfl (by kernel_rfl) (by kernel_rfl) (by kernel_rfl) (fun _ _ _ h => h) (Or.inl ⟨by rfl, ?_⟩) (by assumption) ?_
      rotate_left 1
      · intro wz hSw
        obtain ⟨s0, s1, s2, s3, s4⟩ := hSw
        first | (go_simp; done) | (go_simp; with_reducible rfl)
      simp only [List.set_cons_zero, List.set_cons_succ]
      refine take_at (i := 10) (n := 76) (v := ?_) rfl rfl (by kernel_rfl) (by kernel_rfl) (by kernel_rfl) (fun _ _ _ h => h) (Or.inl ⟨by rfl, ?_⟩) (by assumption) ?_
      rotate_left 1
      · intro wz hSw
        obtain ⟨s0, s1, s2, s3, s4⟩ := hSw
        first | (go_simp; done) | (go_simp; with_reducible rfl)
      simp only [List.set_cons_zero, List.set_cons_succ]
      refine take_at (i := 11) (n := 77) (v := ?_) rfl rfl (by kernel_rfl) (by kernel_rfl) (by kernel_rfl) (fun _ _ _ h => h) (Or.inl ⟨by rfl, ?_⟩) (by assumption) ?_
      rotate_left 1
      · intro wz hSw
        obtain ⟨s0, s1, s2, s3, s4⟩ := hSw
        first | (go_simp; done) | (go_simp; with_reducible rfl)
      simp only [List.set_cons_zero, List.set_cons_succ]
      refine take_at (i := 12) (n := 78) (v := ?_) rfl rfl (by kernel_rfl) (by kernel_rfl) (by kernel_rfl) (fun _ _ _ h => h) (Or.inl ⟨by rfl, ?_⟩) (by assumption) ?_
      rotate_left 1
      · intro wz hSw
        obtain ⟨s0, s1, s2, s3, s4⟩ := hSw
        first | (go_simp; done) | (go_simp; with_reducible rfl)
      simp only [List.set_cons_zero, List.set_cons_succ]
      refine take_at (i := 13) (n := 79) (v := ?_) rfl rfl (by kernel_rfl) (by kernel_rfl) (by kernel_rfl) (fun _ _ _ h => h) (Or.inl ⟨by rfl, ?_⟩) (by assumption) ?_
      rotate_left 1
      · intro wz hSw
        obtain ⟨s0, s1, s2, s3, s4⟩ := hSw
        first | (go_simp; done) | (go_simp; with_reducible rfl)
      simp only [List.set_cons_zero, List.set_cons_succ]
      refine take_at (i := 14) (n := 80) (v := ?_) rfl rfl (by kernel_rfl) (by kernel_rfl) (by kernel_rfl) (fun _ _ _ h => h) (Or.inl ⟨by rfl, ?_⟩) (by assumption) ?_
      rotate_left 1
      · intro wz hSw
        obtain ⟨s0, s1, s2, s3, s4⟩ := hSw
        first | (go_simp; done) | (go_simp; with_reducible rfl)
      simp only [List.set_cons_zero, List.set_cons_succ]
      refine take_at (i := 15) (n := 81) (v := ?_) rfl rfl (by kernel_rfl) (by kernel_rfl) (by kernel_rfl) (fun _ _ _ h => h) (Or.inl ⟨by rfl, ?_⟩) (by assumption) ?_
      rotate_left 1
      · intro wz hSw
        obtain ⟨s0, s1, s2, s3, s4⟩ := hSw
        first | (go_simp; done) | (go_simp; with_reducible rfl)
      simp only [List.set_cons_zero, List.set_cons_succ]
      refine take_at (i := 16) (n := 82) (v := ?_) rfl rfl (by kernel_rfl) (by kernel_rfl) (by kernel_rfl) (fun _ _ _ h => h) (Or.inl ⟨by rfl, ?_⟩) (by assumption) ?_
      rotate_left 1
      · intro wz hSw
        obtain ⟨s0, s1, s2, s3, s4⟩ := hSw
        first | (go_simp; done) | (go_simp; with_reducible rfl)
      simp only [List.set_cons_zero, List.set_cons_succ]
      refine take_at (i := 17) (n := 83) (v := ?_) rfl rfl (by kernel_rfl) (by kernel_rfl) (by kernel_rfl) (fun _ _ _ h => h) (Or.inl ⟨by rfl, ?_⟩) (by assumption) ?_
      rotate_left 1
      · intro wz hSw
        obtain ⟨s0, s1, s2, s3, s4⟩ := hSw
        first | (go_simp; done) | (go_simp; with_reducible rfl)
      simp only [List.set_cons_zero, List.set_cons_succ]
      refine take_at (i := 18) (n := 84) (v := ?_) rfl rfl (by kernel_rfl) (by kernel_rfl) (by kernel_rfl) (fun _ _ _ h => h) (Or.inl ⟨by rfl, ?_⟩) (by assumption) ?_
      rotate_left 1
      · intro wz hSw
        obtain ⟨s0, s1, s2, s3, s4⟩ := hSw
        first | (go_simp; done) | (go_simp; with_reducible rfl)
      simp only [List.set_cons_zero, List.set_cons_succ]
      refine take_at (i := 19) (n := 85) (v := ?_) rfl rfl (by kernel_rfl) (by kernel_rfl) (by kernel_rfl) (fun _ _ _ h => h) (Or.inl ⟨by rfl, ?_⟩) (by assumption) ?_
      rotate_left 1
      · intro wz hSw
        obtain ⟨s0, s1, s2, s3, s4⟩ := hSw
        first | (go_simp; done) | (go_simp; with_reducible rfl)
      simp only [List.set_cons_zero, List.set_cons_succ]
      refine take_at (i := 20) (n := 86) (v := ?_) rfl rfl (by kernel_rfl) (by kernel_rfl) (by kernel_rfl) (fun _ _ _ h => h) (Or.inl ⟨by rfl, ?_⟩) (by assumption) ?_
      rotate_left 1
      · intro wz hSw
        obtain ⟨s0, s1, s2, s3, s4⟩ := hSw
        first | (go_simp; done) | (go_simp; with_reducible rfl)
      simp only [List.set_cons_zero, List.set_cons_succ]
      refine take_at (i := 21) (n := 87) (v := ?_) rfl rfl (by kernel_rfl) (by kernel_rfl) (by kernel_rfl) (fun _ _ _ h => h) (Or.inl ⟨by rfl, ?_⟩) (by assumption) ?_
      rotate_left 1
      · intro wz hSw
        obtain ⟨s0, s1, s2, s3, s4⟩ := hSw
        first | (go_simp; done) | (go_simp; with_reducible rfl)
      simp only [List.set_cons_zero, List.set_cons_succ]
      refine take_at (i := 22) (n := 88) (v := ?_) rfl rfl (by kernel_rfl) (by kernel_rfl) (by kernel_rfl) (fun _ _ _ h => h) (Or.inl ⟨by rfl, ?_⟩) (by assumption) ?_
      rotate_left 1
      · intro wz hSw
        obtain ⟨s0, s1, s2, s3, s4⟩ := hSw
        first | (go_simp; done) | (go_simp; with_reducible rfl)
      simp only [List.set_cons_zero, List.set_cons_succ]
      refine take_at (i := 23) (n := 89) (v := ?_) rfl rfl (by kernel_rfl) (by kernel_rfl) (by kernel_rfl) (fun _ _ _ h => h) (Or.inl ⟨by rfl, ?_⟩) (by assumption) ?_
      rotate_left 1
      · intro wz hSw
        obtain ⟨s0, s1, s2, s3, s4⟩ := hSw
        first | (go_simp; done) | (go_simp; with_reducible rfl)
      simp only [List.set_cons_zero, List.set_cons_succ]
      refine take_at (i := 24) (n := 90) (v := ?_) rfl rfl (by kernel_rfl) (by kernel_rfl) (by kernel_rfl) (fun _ _ _ h => h) (Or.inl ⟨by rfl, ?_⟩) (by assumption) ?_
      rotate_left 1
      · intro wz hSw
        obtain ⟨s0, s1, s2, s3, s4⟩ := hSw
        first | (go_simp; done) | (go_simp; with_reducible rfl)
      simp only [List.set_cons_zero, List.set_cons_succ]
      refine take_at (i := 25) (n := 91) (v := ?_) rfl rfl (by kernel_rfl) (by kernel_rfl) (by kernel_rfl) (fun _ _ _ h => h) (Or.inl ⟨by rfl, ?_⟩) (by assumption) ?_
      rotate_left 1
      · intro wz hSw
        obtain ⟨s0, s1, s2, s3, s4⟩ := hSw
        first | (go_simp; done) | (go_simp; with_reducible rfl)
      simp only [List.set_cons_zero, List.set_cons_succ]
      refine take_at (i := 26) (n := 92) (v := ?_) rfl rfl (by kernel_rfl) (by kernel_rfl) (by kernel_rfl) (fun _ _ _ h => h) (Or.inl ⟨by rfl, ?_⟩) (by assumption) ?_
      rotate_left 1
      · intro wz hSw
        obtain ⟨s0, s1, s2, s3, s4⟩ := hSw
        first | (go_simp; done) | (go_simp; with_reducible rfl)
      simp only [List.set_cons_zero, List.set_cons_succ]
      refine take_at (i := 27) (n := 93) (v := ?_) rfl rfl (by kernel_rfl) (by kernel_rfl) (by kernel_rfl) (fun _ _ _ h => h) (Or.inl ⟨by rfl, ?_⟩) (by assumption) ?_
      rotate_left 1
      · intro wz hSw
        obtain ⟨s0, s1, s2, s3, s4⟩ := hSw
        first | (go_simp; done) | (go_simp; with_reducible rfl)
      simp only [List.set_cons_zero, List.set_cons_succ]
      refine wpAnyH_done (by kernel_rfl) ?_ _
      refine NoPanic.normal ?_
      clear hHeld
      have HG : Hid (CB w w5.drew (.slice (some ⟨ab, ao, none⟩) set.length ac) (.slice (some ⟨bb, bo, none⟩) cs.length bc)) := HF2.out.grow (Below.refl _ _).drew
      go_wp2_with fail
      refine ⟨⟨j + 1, by omega, by simp, HG.out, ?_⟩, by simp [intOf]; omega⟩
      have e := HX.out
      rw [HB.out, if_neg HE.out, if_pos rfl] at e
      exact e
end Go.Proofs.YtccoobcggbbciaiGreatDoor
