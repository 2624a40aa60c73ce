import Derived.Test.YtccoobcggbbciaiGreatDoorMQ
namespace Go.Proofs.YtccoobcggbbciaiGreatDoor
open Go.ChangeShapes Go.WideShapes Go.ChangeAt Go.RowKit

def cr0 : Cr := ⟨0, 0, 0, 0, false, 0⟩
/- What is wrong with one coming, and how long it takes. -/
def badM (set : List Cr) (c : Co) (y : Int) : Int := if within c.k 0 ((set.length : Int) - 1) = false then 4 else if within c.a 0 20000 = false ∨ within y 1 (set.getD c.k.toNat cr0).h = false then 3 else 0
def chkMF (set : List Cr) (tk : List Int) : List Co → Nat → Int × Int
  | [], _ => (0, 0)
  | c :: r, i => if badM set c (tk.getD i 0) = 0 then chkMF set tk r (i + 1) else (badM set c (tk.getD i 0), (i : Int))
def chkM (set : List Cr) (cs : List Co) (tk : List Int) (u : Int) : Int × Int := if (chkC set).1 ≠ 0 then chkC set else if 4000 < cs.length ∨ tk.length ≠ cs.length then (2, 0) else if within u 0 20000 = false then (3, 0) else chkMF set tk cs 0

theorem chkM_1 {set : List Cr} {cs : List Co} {tk : List Int} {u : Int} (h : (chkC set).1 ≠ 0) : chkM set cs tk u = chkC set := by unfold chkM; rw [if_pos h]
theorem chkM_2 {set : List Cr} {cs : List Co} {tk : List Int} {u : Int} (h : (chkC set).1 = 0) (h2 : 4000 < cs.length ∨ tk.length ≠ cs.length) : chkM set cs tk u = (2, 0) := by unfold chkM; rw [if_neg (by simpa using h), if_pos h2]
theorem chkM_3 {set : List Cr} {cs : List Co} {tk : List Int} {u : Int} (h : (chkC set).1 = 0) (h2 : ¬ (4000 < cs.length ∨ tk.length ≠ cs.length)) (h3 : within u 0 20000 = false) : chkM set cs tk u = (3, 0) := by unfold chkM; rw [if_neg (by simpa using h), if_neg h2, if_pos h3]
theorem chkM_4 {set : List Cr} {cs : List Co} {tk : List Int} {u : Int} (h : (chkC set).1 = 0) (h2 : ¬ (4000 < cs.length ∨ tk.length ≠ cs.length)) (h3 : within u 0 20000 = true) : chkM set cs tk u = chkMF set tk cs 0 := by unfold chkM; rw [if_neg (by simpa using h), if_neg h2, if_neg (by simp [h3])]

theorem checkPlayM_ends {w : World} {g : Nat} {c k : Value} {a : Act} (h : w.heap[g]? = some (.cells #[c, k] 30 (0, 0))) (h3 : a.tmps[8]?.getD undef = .pointer (some ⟨g, 0, none⟩)) :
    (results Tryz.f36 a.tmps).run Tryz.prog w = .ok (.agg #[c, k]) w := by
  obtain ⟨c1, f1, l1⟩ := cells_of (l := [_, _]) h
  have c10 := c1 0 _ rfl
  have c11 := c1 1 _ rfl
  simp [results, Tryz.results36, go_sem, h3, c10, c11]

set_option maxRecDepth 20000 in
set_option maxHeartbeats 4000000 in
theorem checkPlayM_any (w : World) (set : List Cr) (cs : List Co) (tk : List Int) (u : Int) (v vc vt : Value) (hv : RowSl Cr.vals w set v) (hc : RowSl Co.vals w cs vc) (ht : RowSl nuV w tk vt) :
    Calls Tryz.prog 36 #[v, vc, vt, .int .i64 u] w fun r w' => r = .returned (.agg #[.int .i64 (chkM set cs tk u).1, .int .i64 (chkM set cs tk u).2]) ∧ Below w.heap.size w w' := by
  have HC := CheckM_any (w.alloc (.cells #[.int .i64 0, .int .i64 0] 30)) set v (hv.below (below_new _ _))
  obtain ⟨ad, ac, rfl, -, hac, hrow⟩ := hv
  obtain ⟨bd, bc, rfl, -, hbc, hrowc⟩ := hc
  obtain ⟨td, tc, rfl, -, htc, hrowt⟩ := ht
  have HR : Hid ((set = [] ∨ ∃ b o, ad = some ⟨b, o, none⟩ ∧ ∀ q u, (set.flatMap Cr.vals)[q]? = some u → w.cell? ⟨b, o + q, none⟩ = some u) ∧ (cs = [] ∨ ∃ b o, bd = some ⟨b, o, none⟩ ∧ ∀ q u, (cs.flatMap Co.vals)[q]? = some u → w.cell? ⟨b, o + q, none⟩ = some u) ∧ (tk = [] ∨ ∃ b o, td = some ⟨b, o, none⟩ ∧ ∀ q u, (tk.flatMap nuV)[q]? = some u → w.cell? ⟨b, o + q, none⟩ = some u)) := ⟨hrow, hrowc, hrowt⟩
  have HF : Hid (FB w (w.alloc (.cells #[.int .i64 0, .int .i64 0] 30)) w.heap.size) := FB.start w
  clear hrow hrowc hrowt
  obtain ⟨z1, z2, hz⟩ : ∃ z1 z2, chkC set = (z1, z2) := ⟨_, _, rfl⟩
  obtain ⟨y1, y2, hy⟩ : ∃ y1 y2, chkM set cs tk u = (y1, y2) := ⟨_, _, rfl⟩
  have HY : Hid (chkC set = (z1, z2) ∧ chkM set cs tk u = (y1, y2)) := ⟨hz, hy⟩
  rw [hz] at HC
  rw [hy]
  dsimp only at HC ⊢
  clear hz hy
  go_enter Tryz.func36, Tryz.ntmps36
  go_upto_region 2 with (go_at_call 61; refine HC.mono ?_; rintro r w1 ⟨rfl, hb1⟩; have H1 : Hid (FB w (w1.alloc (.cells #[.int .i64 z1, .int .i64 z2] 30)) w.heap.size) := (HF.out.grow hb1).grow (below_new _ _); clear hb1 HC HF)
  obtain ⟨gs, -, gl⟩ := cells_of (l := [_, _]) (heap_alloc_new w1 (.cells #[.int .i64 z1, .int .i64 z2] 30))
  have g0 := gs 0 _ rfl
  have g1 := gs 1 _ rfl
  clear gs gl
  generalize (w1.alloc (.cells #[.int .i64 z1, .int .i64 z2] 30)) = w2 at *
  generalize w1.heap.size = fb at *
  obtain ⟨G, hG⟩ : ∃ G, w.heap.size = G := ⟨_, rfl⟩
  rw [hG] at H1
  simp only [hG]
  by_cases hz1 : z1 = 0
  rotate_left 1
  · have hzb : (z1 != 0) = true := by simpa using hz1
    obtain ⟨qs, qf, ql⟩ := cells_of (l := [_, _]) H1.out.res
    have q0 := qs 0 _ rfl
    have q1 := qs 1 _ rfl
    have qf0 := qf 0
    have qf1 := qf 1
    clear qs qf
    go_wp2_with fail
    refine bodyPost_ret (checkPlayM_ends (g := G) (c := .int .i64 z1) (k := .int .i64 z2) (set_two H1.out.res) rfl) rfl ?_
    have e := HY.out.2
    rw [chkM_1 (by rw [HY.out.1]; exact hz1), HY.out.1] at e
    obtain ⟨rfl, rfl⟩ := Prod.mk.inj e
    rw [← hG]
    exact ⟨rfl, by have := H1.out.set (.int .i64 z1) (.int .i64 z2); rw [hG] at this ⊢; exact this⟩
  subst hz1
  have HZ : Hid ((chkC set).1 = 0) := by
    have e : (chkC set).1 = 0 := by rw [HY.out.1]
    exact e
  obtain ⟨hs1, hs8, hsok, -⟩ := chkC_ok HZ.out
  have HS : Hid (∀ x ∈ set, okCr x) := hsok
  clear hsok
  by_cases h4 : 4000 < cs.length
  · have h4' : (4000 : Int) < (cs.length : Int) := by omega
    obtain ⟨qs, qf, ql⟩ := cells_of (l := [_, _]) H1.out.res
    have q0 := qs 0 _ rfl
    have q1 := qs 1 _ rfl
    have qf0 := qf 0
    have qf1 := qf 1
    clear qs qf
    go_wp2_with fail
    refine bodyPost_ret (checkPlayM_ends (g := G) (c := .int .i64 2) (k := .int .i64 0) (set_two H1.out.res) rfl) rfl ?_
    have e := HY.out.2
    rw [chkM_2 HZ.out (.inl h4)] at e
    obtain ⟨rfl, rfl⟩ := Prod.mk.inj e
    rw [← hG]
    exact ⟨rfl, by have := H1.out.set (.int .i64 2) (.int .i64 0); rw [hG] at this ⊢; exact this⟩
  have h4' : ¬ (4000 : Int) < (cs.length : Int) := by omega
  by_cases h5 : tk.length = cs.length
  rotate_left 1
  · have h5' : ((tk.length : Int) != (cs.length : Int)) = true := by rw [bne_iff_ne]; omega
    obtain ⟨qs, qf, ql⟩ := cells_of (l := [_, _]) H1.out.res
    have q0 := qs 0 _ rfl
    have q1 := qs 1 _ rfl
    have qf0 := qf 0
    have qf1 := qf 1
    clear qs qf
    go_wp2_with fail
    refine bodyPost_ret (checkPlayM_ends (g := G) (c := .int .i64 2) (k := .int .i64 0) (set_two H1.out.res) rfl) rfl ?_
    have e := HY.out.2
    rw [chkM_2 HZ.out (.inr h5)] at e
    obtain ⟨rfl, rfl⟩ := Prod.mk.inj e
    rw [← hG]
    exact ⟨rfl, by have := H1.out.set (.int .i64 2) (.int .i64 0); rw [hG] at this ⊢; exact this⟩
  have HL : Hid (¬ (4000 < cs.length ∨ tk.length ≠ cs.length)) := by
    have e : ¬ (4000 < cs.length ∨ tk.length ≠ cs.length) := by omega
    exact e
  cases hu : within u 0 20000 with
  | false =>
    have HU : Hid (within u 0 20000 = false) := hu
    go_upto_region 7 with (go_at_call 55; refine (withinM_any _ _ _ _).mono ?_; rintro r w9 ⟨rfl, hw9⟩; have hw8 := hw9.symm; subst hw8; clear hw9; rw [hu])
    clear hu
    obtain ⟨qs, qf, ql⟩ := cells_of (l := [_, _]) H1.out.res
    have q0 := qs 0 _ rfl
    have q1 := qs 1 _ rfl
    have qf0 := qf 0
    have qf1 := qf 1
    clear qs qf
    go_wp2_with fail
    refine bodyPost_ret (checkPlayM_ends (g := G) (c := .int .i64 3) (k := .int .i64 0) (set_two H1.out.res) rfl) rfl ?_
    have e := HY.out.2
    rw [chkM_3 HZ.out HL.out HU.out] at e
    obtain ⟨rfl, rfl⟩ := Prod.mk.inj e
    rw [← hG]
    exact ⟨rfl, by have := H1.out.set (.int .i64 3) (.int .i64 0); rw [hG] at this ⊢; exact this⟩
  | true =>
    have HU : Hid (within u 0 20000 = true) := hu
    go_upto_region 8 with (go_at_call 55; refine (withinM_any _ _ _ _).mono ?_; rintro r w9 ⟨rfl, hw9⟩; have hw8 := hw9.symm; subst hw8; clear hw9; rw [hu])
    clear hu
    have e := HY.out.2
    rw [chkM_4 HZ.out HL.out HU.out] at e
    have HM : Hid (chkMF set tk cs 0 = (y1, y2)) := e
    clear e g0 g1
    go_wp2_with fail
    go_loopw [35] (fun i wr => ∃ j : Nat, j ≤ cs.length ∧ i = .int .i64 j ∧ FB w wr G ∧ chkMF set tk (cs.drop j) j = (y1, y2)) (fun i _ => cs.length - (intOf i).toNat)
    case atStart => exact ⟨0, Nat.zero_le _, rfl, H1.out, HM.out⟩
    case round =>
      obtain ⟨j, hj, rfl, hfb, hf⟩ := hrel
      by_cases hjl : j < cs.length
      · obtain ⟨x, hx, hd'⟩ := drop_at hjl
        obtain ⟨y, hy⟩ : ∃ y, tk[j]? = some y := ⟨_, List.getElem?_eq_getElem (by omega)⟩
        have hyd : tk.getD j 0 = y := by rw [List.getD_eq_getElem?_getD, hy]; rfl
        rw [hd', chkMF, hyd] at hf
        rcases HR.out.2.1 with h | ⟨bb, bo, rfl, hr1⟩
        · rw [h] at hjl; simp at hjl
        rcases HR.out.2.2 with h | ⟨tb, to', rfl, hr2⟩
        · rw [h] at hy; simp at hy
        obtain ⟨c0, c1⟩ := co_at (fun q u hq => below_cell hfb.bel (hr1 q u hq)) hx
        have cty0 := below_cell hfb.bel (nu_at hr2 hy)
        have HF2 : Hid (FB w (wr.alloc (.cells #[.int .i64 x.k, .int .i64 x.a] 38)) G) := hfb.grow (below_new _ _)
        have HX : Hid ((if badM set x y = 0 then chkMF set tk (cs.drop (j + 1)) (j + 1) else (badM set x y, (j : Int))) = (y1, y2)) := hf
        have hji : (j : Int) < (cs.length : Int) := by omega
        have hjt : (j : Int) < (tk.length : Int) := by omega
        have hsw : IntKind.i64.wrap ((set.length : Int) - 1) = (set.length : Int) - 1 := by rw [IntKind.wrap_i64]; omega
        obtain ⟨cs0, cf0, cl0⟩ := cells_of (l := [_, _]) (heap_alloc_new wr (.cells #[.int .i64 x.k, .int .i64 x.a] 38))
        have cg0 := cs0 0 _ rfl
        have cg1 := cs0 1 _ rfl
        have cty := below_cell (below_new wr (.cells #[.int .i64 x.k, .int .i64 x.a] 38)) cty0
        clear hf hr1 hr2 hx hd' hy hyd cty0 hfb cs0 cf0
        cases qk : within x.k 0 ((set.length : Int) - 1) with
        | false =>
          have HB : Hid (badM set x y = 4) := by
            have e : badM set x y = 4 := by unfold badM; rw [if_pos qk]
            exact e
          obtain ⟨xk, xa⟩ := x
          dsimp only at c0 c1 cg0 cg1 cty qk HF2
          go_upto_region 12 with (go_at_call 55; refine (withinM_any _ _ _ _).mono ?_; rintro r w9 ⟨rfl, hw9⟩; have hw8 := hw9.symm; subst hw8; clear hw9; rw [qk])
          clear qk c0 c1
          generalize wr.alloc (.cells #[.int .i64 xk, .int .i64 xa] 38) = w5 at *
          obtain ⟨qs, qf, ql⟩ := cells_of (l := [_, _]) HF2.out.res
          have q0 := qs 0 _ rfl
          have q1 := qs 1 _ rfl
          have qf0 := qf 0
          have qf1 := qf 1
          clear qs qf
          go_wp2_with fail
          refine bodyPost_ret (checkPlayM_ends (g := G) (c := .int .i64 4) (k := .int .i64 (j : Int)) (set_two HF2.out.res) rfl) rfl ?_
          have e := HX.out
          rw [HB.out, if_neg (by decide)] at e
          obtain ⟨rfl, rfl⟩ := Prod.mk.inj e
          exact ⟨rfl, HF2.out.set _ _⟩
        | true =>
          have hk2 : 0 ≤ x.k ∧ x.k ≤ (set.length : Int) - 1 := by unfold within at qk; simpa using qk
          obtain ⟨k, hk⟩ : ∃ k : Nat, x.k = (k : Int) := ⟨x.k.toNat, by omega⟩
          have hkl : k < set.length := by omega
          have hxx : set[k]? = some (set.getD k cr0) := by rw [List.getD_eq_getElem?_getD, List.getElem?_eq_getElem hkl]; rfl
          rcases HR.out.1 with h | ⟨ab, ao, rfl, hr3⟩
          · rw [h] at hkl; simp at hkl
          have cxh := (cr_at (fun q u hq => below_cell HF2.out.bel (hr3 q u hq)) hxx).2.1
          have HB : Hid (badM set x y = if within x.a 0 20000 = false ∨ within y 1 (set.getD k cr0).h = false then 3 else 0) := by
            have e : badM set x y = if within x.a 0 20000 = false ∨ within y 1 (set.getD k cr0).h = false then 3 else 0 := by unfold badM; rw [if_neg (by simp [qk]), hk, Int.toNat_natCast]
            exact e
          obtain ⟨xk, xa⟩ := x
          dsimp only at c0 c1 cg0 cg1 cty qk HF2 hk HB cxh
          subst hk
          generalize (set.getD k cr0).h = xh at *
          have hki : (k : Int) < (set.length : Int) := by omega
          go_upto_region 13 with (go_at_call 55; refine (withinM_any _ _ _ _).mono ?_; rintro r w9 ⟨rfl, hw9⟩; have hw8 := hw9.symm; subst hw8; clear hw9; rw [qk])
          clear qk c0 c1 hr3 hxx hk2
          generalize wr.alloc (.cells #[.int .i64 (k : Int), .int .i64 xa] 38) = w5 at *
          generalize wr.heap.size = cg at *
          cases qa : within xa 0 20000 with
          | false =>
            rw [qa, if_pos (.inl rfl)] at HB
            have a := xa
            refine wp_region_noPanic ?_
            refine wp_region_held_drew (S := fun w' => w'.cell? ⟨cg, 0, none⟩ = some (.int .i64 (k : Int)) ∧ w'.cell? ⟨cg, 1, none⟩ = some (.int .i64 xa) ∧ w'.cell? ⟨tb, to' + j, none⟩ = some (.int .i64 y) ∧ w'.cell? ⟨ab, ao + k * 6 + 1, none⟩ = some (.int .i64 xh)) (by kernel_rfl) ⟨cg0, cg1, cty, cxh⟩ (fun hHeld => ?_)
            refine take_at (i := 0) (n := 49) (v := ?_) rfl rfl (by kernel_rfl) (by kernel_rfl) (by kernel_rfl) (fun _ _ _ h => h) (Or.inl ⟨by rfl, ?_⟩) (by assumption) ?_
            rotate_left 1
            · intro wz hSw
              obtain ⟨s0, s1, s2, s3⟩ := hSw
              first | (go_simp; done) | (go_simp; with_reducible rfl)
            simp only [List.set_cons_zero, List.set_cons_succ]
            refine take_at (i := 1) (n := 50) (v := ?_) rfl rfl (by kernel_rfl) (by kernel_rfl) (by kernel_rfl) (fun _ _ _ h => h) (Or.inl ⟨by rfl, ?_⟩) (by assumption) ?_
            rotate_left 1
            · intro wz hSw
              obtain ⟨s0, s1, s2, s3⟩ := hSw
              first | (go_simp; done) | (go_simp; with_reducible rfl)
            simp only [List.set_cons_zero, List.set_cons_succ]
            refine wpAnyH_ready (rs := [2]) (by kernel_rfl) (by simp) ?_
            refine AllReadyH.cons rfl (fun K hK => ?_) AllReadyH.nil
            go_simp
            go_wp2_with (go_at_call 55; refine (withinM_any _ _ _ _).mono ?_; rintro r w9 ⟨rfl, hw9⟩; have hw8 := hw9.symm; subst hw8; clear hw9; rw [qa])
            refine hK.out _ _ ⟨cg0, cg1, cty, cxh⟩ (fun hHeld => ?_)
            clear hK K
            try simp only [List.set_cons_zero, List.set_cons_succ]
            refine take_at (i := 3) (n := 52) (v := ?_) rfl rfl (by kernel_rfl) (by kernel_rfl) (by kernel_rfl) (fun _ _ _ h => h) (Or.inl ⟨by rfl, ?_⟩) (by assumption) ?_
            rotate_left 1
            · intro wz hSw
              obtain ⟨s0, s1, s2, s3⟩ := hSw
              first | (go_simp; done) | (go_simp; with_reducible rfl)
            simp only [List.set_cons_zero, List.set_cons_succ]
            refine take_at (i := 4) (n := 53) (v := ?_) rfl rfl (by kernel_rfl) (by kernel_rfl) (by kernel_rfl) (fun _ _ _ h => h) (Or.inl ⟨by rfl, ?_⟩) (by assumption) ?_
            rotate_left 1
            · intro wz hSw
              obtain ⟨s0, s1, s2, s3⟩ := hSw
              first | (go_simp; done) | (go_simp; with_reducible rfl)
            simp only [List.set_cons_zero, List.set_cons_succ]
            refine take_at (i := 5) (n := 54) (v := undef) rfl rfl (by kernel_rfl) (by kernel_rfl) (by kernel_rfl) (fun _ _ _ h => h) (Or.inr ⟨by rfl, rfl⟩) (by assumption) ?_
            simp only [List.set_cons_zero, List.set_cons_succ]
            refine take_at (i := 6) (n := 55) (v := undef) rfl rfl (by kernel_rfl) (by kernel_rfl) (by kernel_rfl) (fun _ _ _ h => h) (Or.inr ⟨by rfl, rfl⟩) (by assumption) ?_
            simp only [List.set_cons_zero, List.set_cons_succ]
            refine take_at (i := 7) (n := 56) (v := undef) rfl rfl (by kernel_rfl) (by kernel_rfl) (by kernel_rfl) (fun _ _ _ h => h) (Or.inr ⟨by rfl, rfl⟩) (by assumption) ?_
            simp only [List.set_cons_zero, List.set_cons_succ]
            refine take_at (i := 8) (n := 57) (v := undef) rfl rfl (by kernel_rfl) (by kernel_rfl) (by kernel_rfl) (fun _ _ _ h => h) (Or.inr ⟨by rfl, rfl⟩) (by assumption) ?_
            simp only [List.set_cons_zero, List.set_cons_succ]
            refine take_at (i := 9) (n := 58) (v := undef) rfl rfl (by kernel_rfl) (by kernel_rfl) (by kernel_rfl) (fun _ _ _ h => h) (Or.inr ⟨by rfl, rfl⟩) (by assumption) ?_
            simp only [List.set_cons_zero, List.set_cons_succ]
            refine take_at (i := 10) (n := 59) (v := undef) rfl rfl (by kernel_rfl) (by kernel_rfl) (by kernel_rfl) (fun _ _ _ h => h) (Or.inr ⟨by rfl, rfl⟩) (by assumption) ?_
            simp only [List.set_cons_zero, List.set_cons_succ]
            refine take_at (i := 11) (n := 60) (v := undef) rfl rfl (by kernel_rfl) (by kernel_rfl) (by kernel_rfl) (fun _ _ _ h => h) (Or.inr ⟨by rfl, rfl⟩) (by assumption) ?_
            simp only [List.set_cons_zero, List.set_cons_succ]
            refine take_at (i := 12) (n := 61) (v := undef) rfl rfl (by kernel_rfl) (by kernel_rfl) (by kernel_rfl) (fun _ _ _ h => h) (Or.inr ⟨by rfl, rfl⟩) (by assumption) ?_
            simp only [List.set_cons_zero, List.set_cons_succ]
            refine take_at (i := 13) (n := 62) (v := undef) rfl rfl (by kernel_rfl) (by kernel_rfl) (by kernel_rfl) (fun _ _ _ h => h) (Or.inr ⟨by rfl, rfl⟩) (by assumption) ?_
            simp only [List.set_cons_zero, List.set_cons_succ]
            refine take_at (i := 14) (n := 63) (v := undef) rfl rfl (by kernel_rfl) (by kernel_rfl) (by kernel_rfl) (fun _ _ _ h => h) (Or.inr ⟨by rfl, rfl⟩) (by assumption) ?_
            simp only [List.set_cons_zero, List.set_cons_succ]
            refine take_at (i := 15) (n := 64) (v := undef) rfl rfl (by kernel_rfl) (by kernel_rfl) (by kernel_rfl) (fun _ _ _ h => h) (Or.inr ⟨by rfl, rfl⟩) (by assumption) ?_
            simp only [List.set_cons_zero, List.set_cons_succ]
            refine take_at (i := 16) (n := 65) (v := undef) rfl rfl (by kernel_rfl) (by kernel_rfl) (by kernel_rfl) (fun _ _ _ h => h) (Or.inr ⟨by rfl, rfl⟩) (by assumption) ?_
            simp only [List.set_cons_zero, List.set_cons_succ]
            refine take_at (i := 17) (n := 66) (v := ?_) rfl rfl (by kernel_rfl) (by kernel_rfl) (by kernel_rfl) (fun _ _ _ h => h) (Or.inl ⟨by rfl, ?_⟩) (by assumption) ?_
            rotate_left 1
            · intro wz hSw
              obtain ⟨s0, s1, s2, s3⟩ := hSw
              first | (go_simp; done) | (go_simp; with_reducible rfl)
            simp only [List.set_cons_zero, List.set_cons_succ]
            refine wpAnyH_done (by kernel_rfl) ?_ _
            refine NoPanic.normal ?_
            clear hHeld
            clear qa cg0 cg1 cty cxh
            have HF3 : Hid (FB w w5.drew G) := HF2.out.grow (Below.refl _ _).drew
            generalize w5.drew = w6 at *
            clear HF2
            obtain ⟨qs, qf, ql⟩ := cells_of (l := [_, _]) HF3.out.res
            have q0 := qs 0 _ rfl
            have q1 := qs 1 _ rfl
            have qf0 := qf 0
            have qf1 := qf 1
            clear qs qf
            go_wp2_with fail
            refine bodyPost_ret (checkPlayM_ends (g := G) (c := .int .i64 3) (k := .int .i64 (j : Int)) (set_two HF3.out.res) rfl) rfl ?_
            have e := HX.out
            rw [HB.out, if_neg (by decide)] at e
            obtain ⟨rfl, rfl⟩ := Prod.mk.inj e
            exact ⟨rfl, HF3.out.set _ _⟩
          | true =>
            cases qy : within y 1 xh with
            | false =>
              rw [qa, qy, if_pos (.inr rfl)] at HB
              refine wp_region_noPanic ?_
              refine wp_region_held_drew (S := fun w' => w'.cell? ⟨cg, 0, none⟩ = some (.int .i64 (k : Int)) ∧ w'.cell? ⟨cg, 1, none⟩ = some (.int .i64 xa) ∧ w'.cell? ⟨tb, to' + j, none⟩ = some (.int .i64 y) ∧ w'.cell? ⟨ab, ao + k * 6 + 1, none⟩ = some (.int .i64 xh)) (by kernel_rfl) ⟨cg0, cg1, cty, cxh⟩ (fun hHeld => ?_)
              refine take_at (i := 0) (n := 49) (v := ?_) rfl rfl (by kernel_rfl) (by kernel_rfl) (by kernel_rfl) (fun _ _ _ h => h) (Or.inl ⟨by rfl, ?_⟩) (by assumption) ?_
              rotate_left 1
              · intro wz hSw
                obtain ⟨s0, s1, s2, s3⟩ := hSw
                first | (go_simp; done) | (go_simp; with_reducible rfl)
              simp only [List.set_cons_zero, List.set_cons_succ]
              refine take_at (i := 1) (n := 50) (v := ?_) rfl rfl (by kernel_rfl) (by kernel_rfl) (by kernel_rfl) (fun _ _ _ h => h) (Or.inl ⟨by rfl, ?_⟩) (by assumption) ?_
              rotate_left 1
              · intro wz hSw
                obtain ⟨s0, s1, s2, s3⟩ := hSw
                first | (go_simp; done) | (go_simp; with_reducible rfl)
              simp only [List.set_cons_zero, List.set_cons_succ]
              refine wpAnyH_ready (rs := [2]) (by kernel_rfl) (by simp) ?_
              refine AllReadyH.cons rfl (fun K hK => ?_) AllReadyH.nil
              go_simp
              go_wp2_with (go_at_call 55; refine (withinM_any _ _ _ _).mono ?_; rintro r w9 ⟨rfl, hw9⟩; have hw8 := hw9.symm; subst hw8; clear hw9; rw [qa])
              refine hK.out _ _ ⟨cg0, cg1, cty, cxh⟩ (fun hHeld => ?_)
              clear hK K
              try simp only [List.set_cons_zero, List.set_cons_succ]
              refine take_at (i := 3) (n := 52) (v := ?_) rfl rfl (by kernel_rfl) (by kernel_rfl) (by kernel_rfl) (fun _ _ _ h => h) (Or.inl ⟨by rfl, ?_⟩) (by assumption) ?_
              rotate_left 1
              · intro wz hSw
                obtain ⟨s0, s1, s2, s3⟩ := hSw
                first | (go_simp; done) | (go_simp; with_reducible rfl)
              simp only [List.set_cons_zero, List.set_cons_succ]
              refine take_at (i := 4) (n := 53) (v := ?_) rfl rfl (by kernel_rfl) (by kernel_rfl) (by kernel_rfl) (fun _ _ _ h => h) (Or.inl ⟨by rfl, ?_⟩) (by assumption) ?_
              rotate_left 1
              · intro wz hSw
                obtain ⟨s0, s1, s2, s3⟩ := hSw
                first | (go_simp; done) | (go_simp; with_reducible rfl)
              simp only [List.set_cons_zero, List.set_cons_succ]
              refine take_at (i := 5) (n := 54) (v := ?_) rfl rfl (by kernel_rfl) (by kernel_rfl) (by kernel_rfl) (fun _ _ _ h => h) (Or.inl ⟨by rfl, ?_⟩) (by assumption) ?_
              rotate_left 1
              · intro wz hSw
                obtain ⟨s0, s1, s2, s3⟩ := hSw
                first | (go_simp; done) | (go_simp; with_reducible rfl)
              simp only [List.set_cons_zero, List.set_cons_succ]
              refine take_at (i := 6) (n := 55) (v := ?_) rfl rfl (by kernel_rfl) (by kernel_rfl) (by kernel_rfl) (fun _ _ _ h => h) (Or.inl ⟨by rfl, ?_⟩) (by assumption) ?_
              rotate_left 1
              · intro wz hSw
                obtain ⟨s0, s1, s2, s3⟩ := hSw
                first | (go_simp; done) | (go_simp; with_reducible rfl)
              simp only [List.set_cons_zero, List.set_cons_succ]
              refine take_at (i := 7) (n := 56) (v := ?_) rfl rfl (by kernel_rfl) (by kernel_rfl) (by kernel_rfl) (fun _ _ _ h => h) (Or.inl ⟨by rfl, ?_⟩) (by assumption) ?_
              rotate_left 1
              · intro wz hSw
                obtain ⟨s0, s1, s2, s3⟩ := hSw
                first | (go_simp; done) | (go_simp; with_reducible rfl)
              simp only [List.set_cons_zero, List.set_cons_succ]
              refine take_at (i := 8) (n := 57) (v := ?_) rfl rfl (by kernel_rfl) (by kernel_rfl) (by kernel_rfl) (fun _ _ _ h => h) (Or.inl ⟨by rfl, ?_⟩) (by assumption) ?_
              rotate_left 1
              · intro wz hSw
                obtain ⟨s0, s1, s2, s3⟩ := hSw
                first | (go_simp; done) | (go_simp; with_reducible rfl)
              simp only [List.set_cons_zero, List.set_cons_succ]
              refine take_at (i := 9) (n := 58) (v := ?_) rfl rfl (by kernel_rfl) (by kernel_rfl) (by kernel_rfl) (fun _ _ _ h => h) (Or.inl ⟨by rfl, ?_⟩) (by assumption) ?_
              rotate_left 1
              · intro wz hSw
                obtain ⟨s0, s1, s2, s3⟩ := hSw
                first | (go_simp; done) | (go_simp; with_reducible rfl)
              simp only [List.set_cons_zero, List.set_cons_succ]
              refine take_at (i := 10) (n := 59) (v := ?_) rfl rfl (by kernel_rfl) (by kernel_rfl) (by kernel_rfl) (fun _ _ _ h => h) (Or.inl ⟨by rfl, ?_⟩) (by assumption) ?_
              rotate_left 1
              · intro wz hSw
                obtain ⟨s0, s1, s2, s3⟩ := hSw
                first | (go_simp; done) | (go_simp; with_reducible rfl)
              simp only [List.set_cons_zero, List.set_cons_succ]
              refine take_at (i := 11) (n := 60) (v := ?_) rfl rfl (by kernel_rfl) (by kernel_rfl) (by kernel_rfl) (fun _ _ _ h => h) (Or.inl ⟨by rfl, ?_⟩) (by assumption) ?_
              rotate_left 1
              · intro wz hSw
                obtain ⟨s0, s1, s2, s3⟩ := hSw
                first | (go_simp; done) | (go_simp; with_reducible rfl)
              simp only [List.set_cons_zero, List.set_cons_succ]
              refine take_at (i := 12) (n := 61) (v := ?_) rfl rfl (by kernel_rfl) (by kernel_rfl) (by kernel_rfl) (fun _ _ _ h => h) (Or.inl ⟨by rfl, ?_⟩) (by assumption) ?_
              rotate_left 1
              · intro wz hSw
                obtain ⟨s0, s1, s2, s3⟩ := hSw
                first | (go_simp; done) | (go_simp; with_reducible rfl)
              simp only [List.set_cons_zero, List.set_cons_succ]
              refine take_at (i := 13) (n := 62) (v := ?_) rfl rfl (by kernel_rfl) (by kernel_rfl) (by kernel_rfl) (fun _ _ _ h => h) (Or.inl ⟨by rfl, ?_⟩) (by assumption) ?_
              rotate_left 1
              · intro wz hSw
                obtain ⟨s0, s1, s2, s3⟩ := hSw
                first | (go_simp; done) | (go_simp; with_reducible rfl)
              simp only [List.set_cons_zero, List.set_cons_succ]
              refine take_at (i := 14) (n := 63) (v := ?_) rfl rfl (by kernel_rfl) (by kernel_rfl) (by kernel_rfl) (fun _ _ _ h => h) (Or.inl ⟨by rfl, ?_⟩) (by assumption) ?_
              rotate_left 1
              · intro wz hSw
                obtain ⟨s0, s1, s2, s3⟩ := hSw
                first | (go_simp; done) | (go_simp; with_reducible rfl)
              simp only [List.set_cons_zero, List.set_cons_succ]
              refine wpAnyH_ready (rs := [15]) (by kernel_rfl) (by simp) ?_
              refine AllReadyH.cons rfl (fun K hK => ?_) AllReadyH.nil
              go_simp
              go_wp2_with (go_at_call 55; refine (withinM_any _ _ _ _).mono ?_; rintro r w9 ⟨rfl, hw9⟩; have hw8 := hw9.symm; subst hw8; clear hw9; rw [qy])
              refine hK.out _ _ ⟨cg0, cg1, cty, cxh⟩ (fun hHeld => ?_)
              clear hK K
              try simp only [List.set_cons_zero, List.set_cons_succ]
              refine take_at (i := 16) (n := 65) (v := ?_) rfl rfl (by kernel_rfl) (by kernel_rfl) (by kernel_rfl) (fun _ _ _ h => h) (Or.inl ⟨by rfl, ?_⟩) (by assumption) ?_
              rotate_left 1
              · intro wz hSw
                obtain ⟨s0, s1, s2, s3⟩ := hSw
                first | (go_simp; done) | (go_simp; with_reducible rfl)
              simp only [List.set_cons_zero, List.set_cons_succ]
              refine take_at (i := 17) (n := 66) (v := ?_) rfl rfl (by kernel_rfl) (by kernel_rfl) (by kernel_rfl) (fun _ _ _ h => h) (Or.inl ⟨by rfl, ?_⟩) (by assumption) ?_
              rotate_left 1
              · intro wz hSw
                obtain ⟨s0, s1, s2, s3⟩ := hSw
                first | (go_simp; done) | (go_simp; with_reducible rfl)
              simp only [List.set_cons_zero, List.set_cons_succ]
              refine wpAnyH_done (by kernel_rfl) ?_ _
              refine NoPanic.normal ?_
              clear hHeld
              clear qa qy cg0 cg1 cty cxh
              have HF3 : Hid (FB w w5.drew G) := HF2.out.grow (Below.refl _ _).drew
              generalize w5.drew = w6 at *
              clear HF2
              obtain ⟨qs, qf, ql⟩ := cells_of (l := [_, _]) HF3.out.res
              have q0 := qs 0 _ rfl
              have q1 := qs 1 _ rfl
              have qf0 := qf 0
              have qf1 := qf 1
              clear qs qf
              go_wp2_with fail
              refine bodyPost_ret (checkPlayM_ends (g := G) (c := .int .i64 3) (k := .int .i64 (j : Int)) (set_two HF3.out.res) rfl) rfl ?_
              have e := HX.out
              rw [HB.out, if_neg (by decide)] at e
              obtain ⟨rfl, rfl⟩ := Prod.mk.inj e
              exact ⟨rfl, HF3.out.set _ _⟩
            | true =>
              rw [qa, qy, if_neg (by simp)] at HB
              refine wp_region_noPanic ?_
              refine wp_region_held_drew (S := fun w' => w'.cell? ⟨cg, 0, none⟩ = some (.int .i64 (k : Int)) ∧ w'.cell? ⟨cg, 1, none⟩ = some (.int .i64 xa) ∧ w'.cell? ⟨tb, to' + j, none⟩ = some (.int .i64 y) ∧ w'.cell? ⟨ab, ao + k * 6 + 1, none⟩ = some (.int .i64 xh)) (by kernel_rfl) ⟨cg0, cg1, cty, cxh⟩ (fun hHeld => ?_)
              refine take_at (i := 0) (n := 49) (v := ?_) rfl rfl (by kernel_rfl) (by kernel_rfl) (by kernel_rfl) (fun _ _ _ h => h) (Or.inl ⟨by rfl, ?_⟩) (by assumption) ?_
              rotate_left 1
              · intro wz hSw
                obtain ⟨s0, s1, s2, s3⟩ := hSw
                first | (go_simp; done) | (go_simp; with_reducible rfl)
              simp only [List.set_cons_zero, List.set_cons_succ]
              refine take_at (i := 1) (n := 50) (v := ?_) rfl rfl (by kernel_rfl) (by kernel_rfl) (by kernel_rfl) (fun _ _ _ h => h) (Or.inl ⟨by rfl, ?_⟩) (by assumption) ?_
              rotate_left 1
              · intro wz hSw
                obtain ⟨s0, s1, s2, s3⟩ := hSw
                first | (go_simp; done) | (go_simp; with_reducible rfl)
              simp only [List.set_cons_zero, List.set_cons_succ]
              refine wpAnyH_ready (rs := [2]) (by kernel_rfl) (by simp) ?_
              refine AllReadyH.cons rfl (fun K hK => ?_) AllReadyH.nil
              go_simp
              go_wp2_with (go_at_call 55; refine (withinM_any _ _ _ _).mono ?_; rintro r w9 ⟨rfl, hw9⟩; have hw8 := hw9.symm; subst hw8; clear hw9; rw [qa])
              refine hK.out _ _ ⟨cg0, cg1, cty, cxh⟩ (fun hHeld => ?_)
              clear hK K
              try simp only [List.set_cons_zero, List.set_cons_succ]
              refine take_at (i := 3) (n := 52) (v := ?_) rfl rfl (by kernel_rfl) (by kernel_rfl) (by kernel_rfl) (fun _ _ _ h => h) (Or.inl ⟨by rfl, ?_⟩) (by assumption) ?_
              rotate_left 1
              · intro wz hSw
                obtain ⟨s0, s1, s2, s3⟩ := hSw
                first | (go_simp; done) | (go_simp; with_reducible rfl)
              simp only [List.set_cons_zero, List.set_cons_succ]
              refine take_at (i := 4) (n := 53) (v := ?_) rfl rfl (by kernel_rfl) (by kernel_rfl) (by kernel_rfl) (fun _ _ _ h => h) (Or.inl ⟨by rfl, ?_⟩) (by assumption) ?_
              rotate_left 1
              · intro wz hSw
                obtain ⟨s0, s1, s2, s3⟩ := hSw
                first | (go_simp; done) | (go_simp; with_reducible rfl)
              simp only [List.set_cons_zero, List.set_cons_succ]
              refine take_at (i := 5) (n := 54) (v := ?_) rfl rfl (by kernel_rfl) (by kernel_rfl) (by kernel_rfl) (fun _ _ _ h => h) (Or.inl ⟨by rfl, ?_⟩) (by assumption) ?_
              rotate_left 1
              · intro wz hSw
                obtain ⟨s0, s1, s2, s3⟩ := hSw
                first | (go_simp; done) | (go_simp; with_reducible rfl)
              simp only [List.set_cons_zero, List.set_cons_succ]
              refine take_at (i := 6) (n := 55) (v := ?_) rfl rfl (by kernel_rfl) (by kernel_rfl) (by kernel_rfl) (fun _ _ _ h => h) (Or.inl ⟨by rfl, ?_⟩) (by assumption) ?_
              rotate_left 1
              · intro wz hSw
                obtain ⟨s0, s1, s2, s3⟩ := hSw
                first | (go_simp; done) | (go_simp; with_reducible rfl)
              simp only [List.set_cons_zero, List.set_cons_succ]
              refine take_at (i := 7) (n := 56) (v := ?_) rfl rfl (by kernel_rfl) (by kernel_rfl) (by kernel_rfl) (fun _ _ _ h => h) (Or.inl ⟨by rfl, ?_⟩) (by assumption) ?_
              rotate_left 1
              · intro wz hSw
                obtain ⟨s0, s1, s2, s3⟩ := hSw
                first | (go_simp; done) | (go_simp; with_reducible rfl)
              simp only [List.set_cons_zero, List.set_cons_succ]
              refine take_at (i := 8) (n := 57) (v := ?_) rfl rfl (by kernel_rfl) (by kernel_rfl) (by kernel_rfl) (fun _ _ _ h => h) (Or.inl ⟨by rfl, ?_⟩) (by assumption) ?_
              rotate_left 1
              · intro wz hSw
                obtain ⟨s0, s1, s2, s3⟩ := hSw
                first | (go_simp; done) | (go_simp; with_reducible rfl)
              simp only [List.set_cons_zero, List.set_cons_succ]
              refine take_at (i := 9) (n := 58) (v := ?_) rfl rfl (by kernel_rfl) (by kernel_rfl) (by kernel_rfl) (fun _ _ _ h => h) (Or.inl ⟨by rfl, ?_⟩) (by assumption) ?_
              rotate_left 1
              · intro wz hSw
                obtain ⟨s0, s1, s2, s3⟩ := hSw
                first | (go_simp; done) | (go_simp; with_reducible rfl)
              simp only [List.set_cons_zero, List.set_cons_succ]
              refine take_at (i := 10) (n := 59) (v := ?_) rfl rfl (by kernel_rfl) (by kernel_rfl) (by kernel_rfl) (fun _ _ _ h => h) (Or.inl ⟨by rfl, ?_⟩) (by assumption) ?_
              rotate_left 1
              · intro wz hSw
                obtain ⟨s0, s1, s2, s3⟩ := hSw
                first | (go_simp; done) | (go_simp; with_reducible rfl)
              simp only [List.set_cons_zero, List.set_cons_succ]
              refine take_at (i := 11) (n := 60) (v := ?_) rfl rfl (by kernel_rfl) (by kernel_rfl) (by kernel_rfl) (fun _ _ _ h => h) (Or.inl ⟨by rfl, ?_⟩) (by assumption) ?_
              rotate_left 1
              · intro wz hSw
                obtain ⟨s0, s1, s2, s3⟩ := hSw
                first | (go_simp; done) | (go_simp; with_reducible rfl)
              simp only [List.set_cons_zero, List.set_cons_succ]
              refine take_at (i := 12) (n := 61) (v := ?_) rfl rfl (by kernel_rfl) (by kernel_rfl) (by kernel_rfl) (fun _ _ _ h => h) (Or.inl ⟨by rfl, ?_⟩) (by assumption) ?_
              rotate_left 1
              · intro wz hSw
                obtain ⟨s0, s1, s2, s3⟩ := hSw
                first | (go_simp; done) | (go_simp; with_reducible rfl)
              simp only [List.set_cons_zero, List.set_cons_succ]
              refine take_at (i := 13) (n := 62) (v := ?_) rfl rfl (by kernel_rfl) (by kernel_rfl) (by kernel_rfl) (fun _ _ _ h => h) (Or.inl ⟨by rfl, ?_⟩) (by assumption) ?_
              rotate_left 1
              · intro wz hSw
                obtain ⟨s0, s1, s2, s3⟩ := hSw
                first | (go_simp; done) | (go_simp; with_reducible rfl)
              simp only [List.set_cons_zero, List.set_cons_succ]
              refine take_at (i := 14) (n := 63) (v := ?_) rfl rfl (by kernel_rfl) (by kernel_rfl) (by kernel_rfl) (fun _ _ _ h => h) (Or.inl ⟨by rfl, ?_⟩) (by assumption) ?_
              rotate_left 1
              · intro wz hSw
                obtain ⟨s0, s1, s2, s3⟩ := hSw
                first | (go_simp; done) | (go_simp; with_reducible rfl)
              simp only [List.set_cons_zero, List.set_cons_succ]
              refine wpAnyH_ready (rs := [15]) (by kernel_rfl) (by simp) ?_
              refine AllReadyH.cons rfl (fun K hK => ?_) AllReadyH.nil
              go_simp
              go_wp2_with (go_at_call 55; refine (withinM_any _ _ _ _).mono ?_; rintro r w9 ⟨rfl, hw9⟩; have hw8 := hw9.symm; subst hw8; clear hw9; rw [qy])
              refine hK.out _ _ ⟨cg0, cg1, cty, cxh⟩ (fun hHeld => ?_)
              clear hK K
              try simp only [List.set_cons_zero, List.set_cons_succ]
              refine take_at (i := 16) (n := 65) (v := ?_) rfl rfl (by kernel_rfl) (by kernel_rfl) (by kernel_rfl) (fun _ _ _ h => h) (Or.inl ⟨by rfl, ?_⟩) (by assumption) ?_
              rotate_left 1
              · intro wz hSw
                obtain ⟨s0, s1, s2, s3⟩ := hSw
                first | (go_simp; done) | (go_simp; with_reducible rfl)
              simp only [List.set_cons_zero, List.set_cons_succ]
              refine take_at (i := 17) (n := 66) (v := ?_) rfl rfl (by kernel_rfl) (by kernel_rfl) (by kernel_rfl) (fun _ _ _ h => h) (Or.inl ⟨by rfl, ?_⟩) (by assumption) ?_
              rotate_left 1
              · intro wz hSw
                obtain ⟨s0, s1, s2, s3⟩ := hSw
                first | (go_simp; done) | (go_simp; with_reducible rfl)
              simp only [List.set_cons_zero, List.set_cons_succ]
              refine wpAnyH_done (by kernel_rfl) ?_ _
              refine NoPanic.normal ?_
              clear hHeld
              clear qa qy cg0 cg1 cty cxh
              have HF3 : Hid (FB w w5.drew G) := HF2.out.grow (Below.refl _ _).drew
              generalize w5.drew = w6 at *
              clear HF2
              go_wp2_with fail
              have e := HX.out
              rw [HB.out, if_pos rfl] at e
              exact ⟨⟨j + 1, by omega, by simp, HF3.out, e⟩, by simp [intOf]; omega⟩
      · have hje : j = cs.length := by omega
        subst hje
        rw [List.drop_length, chkMF] at hf
        obtain ⟨rfl, rfl⟩ := Prod.mk.inj hf
        have HF3 : Hid (FB w wr G) := hfb
        clear hfb hf
        obtain ⟨qs, qf, ql⟩ := cells_of (l := [_, _]) HF3.out.res
        have q0 := qs 0 _ rfl
        have q1 := qs 1 _ rfl
        have qf0 := qf 0
        have qf1 := qf 1
        clear qs qf
        go_wp2_with fail
        refine bodyPost_ret (checkPlayM_ends (g := G) (c := .int .i64 0) (k := .int .i64 0) (set_two HF3.out.res) rfl) rfl ?_
        exact ⟨rfl, HF3.out.set _ _⟩
end Go.Proofs.YtccoobcggbbciaiGreatDoor
