import Derived.Test.YtccoobcggbbciaiGreatDoorPC4
import Derived.Test.YtccoobcggbbciaiGreatDoorMV
namespace Go.Proofs.YtccoobcggbbciaiGreatDoor
open Go.ChangeShapes Go.WideShapes Go.ChangeAt Go.RowKit
open S8 (Own zI)
open Stab

set_option maxRecDepth 20000 in
set_option maxHeartbeats 16000000 in
theorem PlayCrit_good (w : World) (set : List Cr) (cs : List Co) (tk : List Int) (n : Nat) (v vc vt : Value) (hv : RowSl Cr.vals w set v) (hc : RowSl Co.vals w cs vc) (ht : RowSl nuV w tk vt) (hgood : (chkM set cs tk (n : Int)).1 = 0) :
    Calls Tryz.prog 8 #[v, vc, vt, .int .i64 (n : Int)] w fun r W => ∃ s TT v1 v2, r = .returned (.tuple #[v1, v2, .int .i64 TT, .agg #[.int .i64 0, .int .i64 0]]) ∧ PlaysT (jsF set cs tk) (hiOf set cs) (fun j => (crOf set cs j).c) n s TT ∧ RowSl nuV W s.runs v1 ∧ RowSl nuV W s.ends v2 ∧ Below w.heap.size w W := by
  have HF : Hid (CB w (((w.alloc (.cells #[v] 22)).alloc (.cells #[vc] 23)).alloc (.cells #[.int .i64 0, .int .i64 0] 30)) v vc) := CB.start w v vc
  have HC := CheckCrit_any (((w.alloc (.cells #[v] 22)).alloc (.cells #[vc] 23)).alloc (.cells #[.int .i64 0, .int .i64 0] 30)) set v (hv.below HF.out.fb.bel)
  obtain ⟨k1, h4, h5, hnn, k5, -⟩ := chkM_ok hgood
  obtain ⟨-, hs8, hsok, ke⟩ := chkC_ok k1
  have HV : Hid (RowSl Cr.vals w set v ∧ RowSl Co.vals w cs vc ∧ RowSl nuV w tk vt ∧ Whose set cs ∧ (∀ x ∈ jsF set cs tk, S8.okJ x) ∧ (∀ x ∈ set, x.hi = false → x.h = x.c) ∧ ∀ n c, cs[n]? = some c → (0 ≤ c.k ∧ c.k < (set.length : Int)) ∧ (0 ≤ c.a ∧ c.a ≤ 20000) ∧ 1 ≤ tk.getD n 0 ∧ tk.getD n 0 ≤ (crOf set cs n).h) := ⟨hv, hc, ht, chkM_whose hgood, chkM_jobs hgood, chkC_ord k1, k5⟩
  have HOK : Hid (∀ x ∈ set, okCr x) := hsok
  rw [ke] at HC
  dsimp only at HC
  obtain ⟨ad, ac, rfl, -, hac, hrow⟩ := hv
  obtain ⟨bd, bc, rfl, -, hbc, hrowc⟩ := hc
  have hvt := ht
  obtain ⟨td, tc, rfl, -, htc, hrowt⟩ := ht
  have HVT : Hid (RowSl nuV w tk (.slice td tk.length tc)) := hvt
  have HR : Hid ((set = [] ∨ ∃ b o, ad = some ⟨b, o, none⟩ ∧ ∀ q u, (set.flatMap Cr.vals)[q]? = some u → w.cell? ⟨b, o + q, none⟩ = some u) ∧ (cs = [] ∨ ∃ b o, bd = some ⟨b, o, none⟩ ∧ ∀ q u, (cs.flatMap Co.vals)[q]? = some u → w.cell? ⟨b, o + q, none⟩ = some u) ∧ (tk = [] ∨ ∃ b o, td = some ⟨b, o, none⟩ ∧ ∀ q u, (tk.flatMap nuV)[q]? = some u → w.cell? ⟨b, o + q, none⟩ = some u)) := ⟨hrow, hrowc, hrowt⟩
  clear hrow hrowc hrowt hvt k1 ke k5 hsok hgood
  have h4' : ¬ (4000 : Int) < (cs.length : Int) := by omega
  have h5' : ((tk.length : Int) != (cs.length : Int)) = false := by rw [bne_eq_false_iff_eq]; omega
  have q1b : decide ((n : Int) < 0) = false := decide_eq_false (by omega)
  have q2b : decide (20000 < (n : Int)) = false := decide_eq_false (by omega)
  have q2c : ¬ 20000 < (n : Int) := by omega
  have hn : n ≤ 20000 := by omega
  clear hnn
  go_enter Tryz.func8, Tryz.ntmps8
  go_upto_region 2 with (go_at_call 32; refine HC.mono ?_; rintro r w1 ⟨rfl, hb1⟩; have H1 : Hid (CB w (w1.alloc (.cells #[.int .i64 0, .int .i64 0] 30)) (.slice ad set.length ac) (.slice bd cs.length bc)) := (HF.out.grow hb1).grow (below_new _ _); clear hb1 HC HF)
  obtain ⟨gs, -, gl⟩ := cells_of (l := [_, _]) (heap_alloc_new w1 (.cells #[.int .i64 0, .int .i64 0] 30))
  have g0 := gs 0 _ rfl
  clear gs gl
  generalize (w1.alloc (.cells #[.int .i64 0, .int .i64 0] 30)) = w2 at *
  generalize w1.heap.size = fb at *
  obtain ⟨ts, -, tl0⟩ := cells_of (l := [_]) H1.out.b0
  have bx0 := ts 0 _ rfl
  obtain ⟨ts1, -, tl1⟩ := cells_of (l := [_]) H1.out.b1
  have bx1 := ts1 0 _ rfl
  clear ts ts1
  obtain ⟨G, hG⟩ : ∃ G, w.heap.size = G := ⟨_, rfl⟩
  rw [hG] at bx0 bx1 tl0 tl1
  simp only [hG]
  go_wp2_with fail
  clear g0
  go_loopw [8, 49] (fun u8 i wr => ∃ j : Nat, j ≤ cs.length ∧ u8 = .slice none 0 0 ∧ i = .int .i64 j ∧ CB w wr (.slice ad set.length ac) (.slice bd cs.length bc)) (fun _ i _ => cs.length - (intOf i).toNat)
  case atStart => exact ⟨0, Nat.zero_le _, rfl, rfl, H1.out⟩
  case round =>
    clear bx0 bx1 tl0 tl1
    obtain ⟨j, hj, rfl, rfl, hcb⟩ := hrel
    by_cases hjl : j < cs.length
    · obtain ⟨x, k, hx, hxk, hxx⟩ := HV.out.2.2.2.1.at hjl
      obtain ⟨⟨-, hkl⟩, ⟨ha1, ha2⟩, hy1, hy2⟩ := HV.out.2.2.2.2.2.2 j x hx
      obtain ⟨y, hy⟩ : ∃ y, tk[j]? = some y := ⟨_, List.getElem?_eq_getElem (by omega)⟩
      have hyd : tk.getD j 0 = y := by rw [List.getD_eq_getElem?_getD, hy]; rfl
      rw [hyd] at hy1 hy2
      rcases HR.out.2.1 with h | ⟨bb, bo, rfl, hr1⟩
      · rw [h] at hjl; simp at hjl
      rcases HR.out.2.2 with h | ⟨tb, to', rfl, hr2⟩
      · rw [h] at hy; simp at hy
      rcases HR.out.1 with h | ⟨ab, ao, rfl, hr3⟩
      · rw [h] at hxx; simp at hxx
      obtain ⟨c0, c1⟩ := co_at (fun q u hq => below_cell hcb.fb.bel (hr1 q u hq)) hx
      have cty0 := below_cell hcb.fb.bel (nu_at hr2 hy)
      have HF2 : Hid (CB w (wr.alloc (.cells #[.int .i64 x.k, .int .i64 x.a] 38)) (.slice (some ⟨ab, ao, none⟩) set.length ac) (.slice (some ⟨bb, bo, none⟩) cs.length bc)) := hcb.grow (below_new _ _)
      obtain ⟨ts, -, tl0⟩ := cells_of (l := [_]) HF2.out.b0
      have bx0 := ts 0 _ rfl
      rw [hG] at bx0 tl0
      clear ts
      have hji : (j : Int) < (cs.length : Int) := by omega
      have hjt : (j : Int) < (tk.length : Int) := by omega
      have hsw : IntKind.i64.wrap ((j : Int) + 1) = (j : Int) + 1 := by rw [IntKind.wrap_i64]; omega
      obtain ⟨cs0, cf0, cl0⟩ := cells_of (l := [_, _]) (heap_alloc_new wr (.cells #[.int .i64 x.k, .int .i64 x.a] 38))
      have cg0 := cs0 0 _ rfl
      have cg1 := cs0 1 _ rfl
      have cty := below_cell (below_new wr (.cells #[.int .i64 x.k, .int .i64 x.a] 38)) cty0
      have cxh := (cr_at (fun q u hq => below_cell HF2.out.fb.bel (hr3 q u hq)) hxx).2.1
      have hki : (k : Int) < (set.length : Int) := by omega
      clear hr1 hr2 hr3 hx hxx hy hyd cty0 hcb cs0 cf0
      generalize (crOf set cs j).h = xh at *
      obtain ⟨xk, xa⟩ := x
      dsimp only at c0 c1 cg0 cg1 cty HF2 bx0 tl0 cl0 hxk hkl ha1 ha2
      subst hxk
      have k0b : decide ((k : Int) < 0) = false := decide_eq_false (by omega)
      have k1b : decide ((set.length : Int) ≤ (k : Int)) = false := decide_eq_false (by omega)
      have k1c : ¬ (set.length : Int) ≤ (k : Int) := by omega
      have a0b : decide (xa < 0) = false := decide_eq_false (by omega)
      have a1b : decide (20000 < xa) = false := decide_eq_false (by omega)
      have y0b : decide (y < 1) = false := decide_eq_false (by omega)
      have y1b : decide (xh < y) = false := decide_eq_false (by omega)
      go_upto_region 11 with fail
      clear c0 c1
      generalize wr.alloc (.cells #[.int .i64 (k : Int), .int .i64 xa] 38) = w5 at *
      generalize wr.heap.size = cg at *
      go_upto_region 13 with fail
      refine wp_region_noPanic ?_
      refine wp_region_held_drew (S := fun w' => w'.cell? ⟨G, 0, none⟩ = some (.slice (some ⟨ab, ao, none⟩) set.length ac) ∧ w'.cell? ⟨cg, 0, none⟩ = some (.int .i64 (k : Int)) ∧ w'.cell? ⟨cg, 1, none⟩ = some (.int .i64 xa) ∧ w'.cell? ⟨tb, to' + j, none⟩ = some (.int .i64 y) ∧ w'.cell? ⟨ab, ao + k * 6 + 1, none⟩ = some (.int .i64 xh)) (by kernel_rfl) ⟨bx0, cg0, cg1, cty, cxh⟩ (fun hHeld => ?_)
      refine take_at (i := 0) (n := 66) (v := ?_) rfl rfl (by kernel_rfl) (by kernel_rfl) (by kernel_rfl) (fun _ _ _ h => h) (Or.inl ⟨by rfl, ?_⟩) (by assumption) ?_
      rotate_left 1
      · intro wz hSw
        obtain ⟨s0, s1, s2, s3, s4⟩ := hSw
        first | (go_simp; done) | (go_simp; with_reducible rfl)
      simp only [List.set_cons_zero, List.set_cons_succ]
      refine take_at (i := 1) (n := 67) (v := ?_) rfl rfl (by kernel_rfl) (by kernel_rfl) (by kernel_rfl) (fun _ _ _ h => h) (Or.inl ⟨by rfl, ?_⟩) (by assumption) ?_
      rotate_left 1
      · intro wz hSw
        obtain ⟨s0, s1, s2, s3, s4⟩ := hSw
        first | (go_simp; done) | (go_simp; with_reducible rfl)
      simp only [List.set_cons_zero, List.set_cons_succ]
      refine take_at (i := 2) (n := 68) (v := ?_) rfl rfl (by kernel_rfl) (by kernel_rfl) (by kernel_rfl) (fun _ _ _ h => h) (Or.inl ⟨by rfl, ?_⟩) (by assumption) ?_
      rotate_left 1
      · intro wz hSw
        obtain ⟨s0, s1, s2, s3, s4⟩ := hSw
        first | (go_simp; done) | (go_simp; with_reducible rfl)
      simp only [List.set_cons_zero, List.set_cons_succ]
      refine take_at (i := 3) (n := 69) (v := ?_) rfl rfl (by kernel_rfl) (by kernel_rfl) (by kernel_rfl) (fun _ _ _ h => h) (Or.inl ⟨by rfl, ?_⟩) (by assumption) ?_
      rotate_left 1
      · intro wz hSw
        obtain ⟨s0, s1, s2, s3, s4⟩ := hSw
        first | (go_simp; done) | (go_simp; with_reducible rfl)
      simp only [List.set_cons_zero, List.set_cons_succ]
      refine take_at (i := 4) (n := 70) (v := ?_) rfl rfl (by kernel_rfl) (by kernel_rfl) (by kernel_rfl) (fun _ _ _ h => h) (Or.inl ⟨by rfl, ?_⟩) (by assumption) ?_
      rotate_left 1
      · intro wz hSw
        obtain ⟨s0, s1, s2, s3, s4⟩ := hSw
        first | (go_simp; done) | (go_simp; with_reducible rfl)
      simp only [List.set_cons_zero, List.set_cons_succ]
      refine take_at (i := 5) (n := 71) (v := ?_) rfl rfl (by kernel_rfl) (by kernel_rfl) (by kernel_rfl) (fun _ _ _ h => h) (Or.inl ⟨by rfl, ?_⟩) (by assumption) ?_
      rotate_left 1
      · intro wz hSw
        obtain ⟨s0, s1, s2, s3, s4⟩ := hSw
        first | (go_simp; done) | (go_simp; with_reducible rfl)
      simp only [List.set_cons_zero, List.set_cons_succ]
      refine take_at (i := 6) (n := 72) (v := ?_) rfl rfl (by kernel_rfl) (by kernel_rfl) (by kernel_rfl) (fun _ _ _ h => h) (Or.inl ⟨by rfl, ?_⟩) (by assumption) ?_
      rotate_left 1
      · intro wz hSw
        obtain ⟨s0, s1, s2, s3, s4⟩ := hSw
        first | (go_simp; done) | (go_simp; with_reducible rfl)
      simp only [List.set_cons_zero, List.set_cons_succ]
      refine take_at (i := 7) (n := 73) (v := ?_) rfl rfl (by kernel_rfl) (by kernel_rfl) (by kernel_rfl) (fun _ _ _ h => h) (Or.inl ⟨by rfl, ?_⟩) (by assumption) ?_
      rotate_left 1
      · intro wz hSw
        obtain ⟨s0, s1, s2, s3, s4⟩ := hSw
        first | (go_simp; done) | (go_simp; with_reducible rfl)
      simp only [List.set_cons_zero, List.set_cons_succ]
      refine take_at (i := 8) (n := 74) (v := ?_) rfl rfl (by kernel_rfl) (by kernel_rfl) (by kernel_rfl) (fun _ _ _ h => h) (Or.inl ⟨by rfl, ?_⟩) (by assumption) ?_
      rotate_left 1
      · intro wz hSw
        obtain ⟨s0, s1, s2, s3, s4⟩ := hSw
        first | (go_simp; done) | (go_simp; with_reducible rfl)
      simp only [List.set_cons_zero, List.set_cons_succ]
      refine take_at (i := 9) (n := 75) (v := ?_) rfl rfl (by kernel_rfl) (by kernel_rfl) (by kernel_rfl) (fun _ _ _ h => h) (Or.inl ⟨by rfl, ?_⟩) (by assumption) ?_
      rotate_left 1
      · intro wz hSw
        obtain ⟨s0, s1, s2, s3, s4⟩ := hSw
        first | (go_simp; done) | (go_simp; with_reducible rfl)
      simp only [List.set_cons_zero, List.set_cons_succ]
      refine take_at (i := 10) (n := 76) (v := ?_) rfl rfl (by kernel_rfl) (by kernel_rfl) (by kernel_rfl) (fun _ _ _ h => h) (Or.inl ⟨by rfl, ?_⟩) (by assumption) ?_
      rotate_left 1
      · intro wz hSw
        obtain ⟨s0, s1, s2, s3, s4⟩ := hSw
        first | (go_simp; done) | (go_simp; with_reducible rfl)
      simp only [List.set_cons_zero, List.set_cons_succ]
      refine take_at (i := 11) (n := 77) (v := ?_) rfl rfl (by kernel_rfl) (by kernel_rfl) (by kernel_rfl) (fun _ _ _ h => h) (Or.inl ⟨by rfl, ?_⟩) (by assumption) ?_
      rotate_left 1
      · intro wz hSw
        obtain ⟨s0, s1, s2, s3, s4⟩ := hSw
        first | (go_simp; done) | (go_simp; with_reducible rfl)
      simp only [List.set_cons_zero, List.set_cons_succ]
      refine take_at (i := 12) (n := 78) (v := ?_) rfl rfl (by kernel_rfl) (by kernel_rfl) (by kernel_rfl) (fun _ _ _ h => h) (Or.inl ⟨by rfl, ?_⟩) (by assumption) ?_
      rotate_left 1
      · intro wz hSw
        obtain ⟨s0, s1, s2, s3, s4⟩ := hSw
        first | (go_simp; done) | (go_simp; with_reducible rfl)
      simp only [List.set_cons_zero, List.set_cons_succ]
      refine take_at (i := 13) (n := 79) (v := ?_) rfl rfl (by kernel_rfl) (by kernel_rfl) (by kernel_rfl) (fun _ _ _ h => h) (Or.inl ⟨by rfl, ?_⟩) (by assumption) ?_
      rotate_left 1
      · intro wz hSw
        obtain ⟨s0, s1, s2, s3, s4⟩ := hSw
        first | (go_simp; done) | (go_simp; with_reducible rfl)
      simp only [List.set_cons_zero, List.set_cons_succ]
      refine take_at (i := 14) (n := 80) (v := ?_) rfl rfl (by kernel_rfl) (by kernel_rfl) (by kernel_rfl) (fun _ _ _ h => h) (Or.inl ⟨by rfl, ?_⟩) (by assumption) ?_
      rotate_left 1
      · intro wz hSw
        obtain ⟨s0, s1, s2, s3, s4⟩ := hSw
        first | (go_simp; done) | (go_simp; with_reducible rfl)
      simp only [List.set_cons_zero, List.set_cons_succ]
      refine take_at (i := 15) (n := 81) (v := ?_) rfl rfl (by kernel_rfl) (by kernel_rfl) (by kernel_rfl) (fun _ _ _ h => h) (Or.inl ⟨by rfl, ?_⟩) (by assumption) ?_
      rotate_left 1
      · intro wz hSw
        obtain ⟨s0, s1, s2, s3, s4⟩ := hSw
        first | (go_simp; done) | (go_simp; with_reducible rfl)
      simp only [List.set_cons_zero, List.set_cons_succ]
      refine take_at (i := 16) (n := 82) (v := ?_) rfl rfl (by kernel_rfl) (by kernel_rfl) (by kernel_rfl) (fun _ _ _ h => h) (Or.inl ⟨by rfl, ?_⟩) (by assumption) ?_
      rotate_left 1
      · intro wz hSw
        obtain ⟨s0, s1, s2, s3, s4⟩ := hSw
        first | (go_simp; done) | (go_simp; with_reducible rfl)
      simp only [List.set_cons_zero, List.set_cons_succ]
      refine take_at (i := 17) (n := 83) (v := ?_) rfl rfl (by kernel_rfl) (by kernel_rfl) (by kernel_rfl) (fun _ _ _ h => h) (Or.inl ⟨by rfl, ?_⟩) (by assumption) ?_
      rotate_left 1
      · intro wz hSw
        obtain ⟨s0, s1, s2, s3, s4⟩ := hSw
        first | (go_simp; done) | (go_simp; with_reducible rfl)
      simp only [List.set_cons_zero, List.set_cons_succ]
      refine take_at (i := 18) (n := 84) (v := ?_) rfl rfl (by kernel_rfl) (by kernel_rfl) (by kernel_rfl) (fun _ _ _ h => h) (Or.inl ⟨by rfl, ?_⟩) (by assumption) ?_
      rotate_left 1
      · intro wz hSw
        obtain ⟨s0, s1, s2, s3, s4⟩ := hSw
        first | (go_simp; done) | (go_simp; with_reducible rfl)
      simp only [List.set_cons_zero, List.set_cons_succ]
      refine take_at (i := 19) (n := 85) (v := ?_) rfl rfl (by kernel_rfl) (by kernel_rfl) (by kernel_rfl) (fun _ _ _ h => h) (Or.inl ⟨by rfl, ?_⟩) (by assumption) ?_
      rotate_left 1
      · intro wz hSw
        obtain ⟨s0, s1, s2, s3, s4⟩ := hSw
        first | (go_simp; done) | (go_simp; with_reducible rfl)
      simp only [List.set_cons_zero, List.set_cons_succ]
      refine take_at (i := 20) (n := 86) (v := ?_) rfl rfl (by kernel_rfl) (by kernel_rfl) (by kernel_rfl) (fun _ _ _ h => h) (Or.inl ⟨by rfl, ?_⟩) (by assumption) ?_
      rotate_left 1
      · intro wz hSw
        obtain ⟨s0, s1, s2, s3, s4⟩ := hSw
        first | (go_simp; done) | (go_simp; with_reducible rfl)
      simp only [List.set_cons_zero, List.set_cons_succ]
      refine take_at (i := 21) (n := 87) (v := ?_) rfl rfl (by kernel_rfl) (by kernel_rfl) (by kernel_rfl) (fun _ _ _ h => h) (Or.inl ⟨by rfl, ?_⟩) (by assumption) ?_
      rotate_left 1
      · intro wz hSw
        obtain ⟨s0, s1, s2, s3, s4⟩ := hSw
        first | (go_simp; done) | (go_simp; with_reducible rfl)
      simp only [List.set_cons_zero, List.set_cons_succ]
      refine take_at (i := 22) (n := 88) (v := ?_) rfl rfl (by kernel_rfl) (by kernel_rfl) (by kernel_rfl) (fun _ _ _ h => h) (Or.inl ⟨by rfl, ?_⟩) (by assumption) ?_
      rotate_left 1
      · intro wz hSw
        obtain ⟨s0, s1, s2, s3, s4⟩ := hSw
        first | (go_simp; done) | (go_simp; with_reducible rfl)
      simp only [List.set_cons_zero, List.set_cons_succ]
      refine take_at (i := 23) (n := 89) (v := ?_) rfl rfl (by kernel_rfl) (by kernel_rfl) (by kernel_rfl) (fun _ _ _ h => h) (Or.inl ⟨by rfl, ?_⟩) (by assumption) ?_
      rotate_left 1
      · intro wz hSw
        obtain ⟨s0, s1, s2, s3, s4⟩ := hSw
        first | (go_simp; done) | (go_simp; with_reducible rfl)
      simp only [List.set_cons_zero, List.set_cons_succ]
      refine take_at (i := 24) (n := 90) (v := ?_) rfl rfl (by kernel_rfl) (by kernel_rfl) (by kernel_rfl) (fun _ _ _ h => h) (Or.inl ⟨by rfl, ?_⟩) (by assumption) ?_
      rotate_left 1
      · intro wz hSw
        obtain ⟨s0, s1, s2, s3, s4⟩ := hSw
        first | (go_simp; done) | (go_simp; with_reducible rfl)
      simp only [List.set_cons_zero, List.set_cons_succ]
      refine take_at (i := 25) (n := 91) (v := ?_) rfl rfl (by kernel_rfl) (by kernel_rfl) (by kernel_rfl) (fun _ _ _ h => h) (Or.inl ⟨by rfl, ?_⟩) (by assumption) ?_
      rotate_left 1
      · intro wz hSw
        obtain ⟨s0, s1, s2, s3, s4⟩ := hSw
        first | (go_simp; done) | (go_simp; with_reducible rfl)
      simp only [List.set_cons_zero, List.set_cons_succ]
      refine take_at (i := 26) (n := 92) (v := ?_) rfl rfl (by kernel_rfl) (by kernel_rfl) (by kernel_rfl) (fun _ _ _ h => h) (Or.inl ⟨by rfl, ?_⟩) (by assumption) ?_
      rotate_left 1
      · intro wz hSw
        obtain ⟨s0, s1, s2, s3, s4⟩ := hSw
        first | (go_simp; done) | (go_simp; with_reducible rfl)
      simp only [List.set_cons_zero, List.set_cons_succ]
      refine take_at (i := 27) (n := 93) (v := ?_) rfl rfl (by kernel_rfl) (by kernel_rfl) (by kernel_rfl) (fun _ _ _ h => h) (Or.inl ⟨by rfl, ?_⟩) (by assumption) ?_
      rotate_left 1
      · intro wz hSw
        obtain ⟨s0, s1, s2, s3, s4⟩ := hSw
        first | (go_simp; done) | (go_simp; with_reducible rfl)
      simp only [List.set_cons_zero, List.set_cons_succ]
      refine wpAnyH_done (by kernel_rfl) ?_ _
      refine NoPanic.normal ?_
      clear hHeld
      have HG : Hid (CB w w5.drew (.slice (some ⟨ab, ao, none⟩) set.length ac) (.slice (some ⟨bb, bo, none⟩) cs.length bc)) := HF2.out.grow (Below.refl _ _).drew
      go_wp2_with fail
      exact ⟨⟨j + 1, by omega, rfl, by simp, HG.out⟩, by simp [intOf]; omega⟩
    have hjn : ¬ (j : Int) < (cs.length : Int) := by omega
    clear hjl
    have HCB : Hid (CB w wr (.slice ad set.length ac) (.slice bd cs.length bc)) := hcb
    clear hcb H1
    obtain ⟨u, W3, hcp, hown, hb3⟩ := copy_own wr tk td tc (by omega) (HVT.out.below HCB.out.fb.bel)
    obtain ⟨la, lc, rfl⟩ : ∃ a c, u = .slice a tk.length c := owns_value hown
    obtain ⟨W4, hmk, hb4, hh4⟩ := make_ints W3 cs.length h4
    obtain ⟨lb, ex, hla, hlp⟩ := LP.start HCB.out hown hb3 hb4 hh4
    have HL0 : Hid (LP w W4 W4.heap.size lb W3.heap.size ex (.slice ad set.length ac) (.slice bd cs.length bc) (.slice none 0 0) tk (fillE cs.length 0) []) := hlp
    have HLA : Hid (tk = [] ∨ la = some ⟨lb, 0, none⟩) := hla
    obtain ⟨ts1, -, tl1⟩ := cells_of (l := [_]) (HCB.out.grow hb3).b1
    clear hb3 hb4 hh4 hown hlp hla
    have bx1 := ts1 0 _ rfl
    rw [hG] at bx1 tl1
    rw [h5] at hcp
    clear ts1
    go_upto_region 18 with (at_builtin; refine append_knownM rfl (.tmp 97) (.tmp 98) 24 rfl rfl rfl hcp ?_)
    generalize hB : W4.heap.size = B at *
    generalize heb : W3.heap.size = eb at *
    clear hcp hmk hB heb bx1 tl1 hjn
    go_wp2_with fail
    go_loopw [105] (fun iv wr => ∃ k : Nat, k ≤ cs.length ∧ iv = .int .i64 (k : Int) ∧ LP w wr B lb eb ex (.slice ad set.length ac) (.slice bd cs.length bc) (.slice none 0 0) tk (fillE cs.length k) []) (fun iv _ => cs.length - (intOf iv).toNat)
    case atStart => exact ⟨0, Nat.zero_le _, rfl, HL0.out⟩
    case round =>
      obtain ⟨k, hk, rfl, hlp⟩ := hrel
      by_cases hkl : k < cs.length
      · have hki : (k : Int) < (cs.length : Int) := by omega
        have hkw : IntKind.i64.wrap ((k : Int) + 1) = (k : Int) + 1 := by rw [IntKind.wrap_i64]; omega
        obtain ⟨e0, ef0, el0⟩ := hlp.atE (i := k) (v := 0) (by rw [fillE_len hk]; exact hkl) (fillE_at hkl)
        have HN : Hid (LP w (wr.setCell ⟨eb, k, none⟩ (.int .i64 (-1))) B lb eb ex (.slice ad set.length ac) (.slice bd cs.length bc) (.slice none 0 0) tk (fillE cs.length (k + 1)) []) := by
          have e := hlp.setE k (-1)
          rw [fillE_set hkl] at e
          exact e
        clear hlp
        go_wp2_with fail
        exact ⟨⟨k + 1, by omega, by simp, HN.out⟩, by simp [intOf]; omega⟩
      have hke : k = cs.length := by omega
      subst hke
      have HL1 : Hid (LP w wr B lb eb ex (.slice ad set.length ac) (.slice bd cs.length bc) (.slice none 0 0) (S8.St.init (jsF set cs tk)).left (S8.St.init (jsF set cs tk)).ends (S8.St.init (jsF set cs tk)).runs) := by
        rw [init_js h5]
        rw [fillE_full] at hlp
        exact hlp
      clear hlp hkl hk HL0
      go_wp2_with fail
      go_loopw [8, 10, 17] (fun rv Tv tv wr => ∃ (t : Nat) (s : S8.St) (TT : Int) (ra : Option Addr) (rc : Nat), t ≤ n ∧ rv = .slice ra s.runs.length rc ∧ Tv = .int .i64 TT ∧ tv = .int .i64 (t : Int) ∧ LP w wr B lb eb ex (.slice ad set.length ac) (.slice bd cs.length bc) (.slice ra s.runs.length rc) s.left s.ends s.runs ∧ Hid (PlaysT (jsF set cs tk) (hiOf set cs) (fun j => (crOf set cs j).c) t s TT)) (fun _ _ tv _ => n - (intOf tv).toNat)
      case atStart => exact ⟨0, S8.St.init (jsF set cs tk), -1, none, 0, Nat.zero_le _, rfl, rfl, rfl, HL1.out, rfl, rfl⟩
      case round =>
        obtain ⟨t, s, TT, ra, rc, ht, rfl, rfl, rfl, hlp, HP⟩ := hrel
        have HO : Hid (S8.Ok (jsF set cs tk) t s) := playsT_ok HV.out.2.2.2.2.1 t s TT HP.out
        have HT := playsT_turn t s TT HP.out
        by_cases htn : t < n
        · have hti : (t : Int) < (n : Int) := by omega
          have htw : IntKind.i64.wrap ((t : Int) + 1) = (t : Int) + 1 := by rw [IntKind.wrap_i64]; omega
          have HLP : Hid (LP w wr B lb eb ex (.slice ad set.length ac) (.slice bd cs.length bc) (.slice ra s.runs.length rc) s.left s.ends s.runs) := hlp
          clear hlp HL1
          generalize wr = wR at *
          obtain ⟨-, bx1, bl1⟩ := (HLP.out.grow (below_new wR (.cells #[.slice none 0 0] 24))).box
          rw [hG] at bx1 bl1
          go_wp2_with fail
          clear bx1 bl1
          go_loopw [119] (fun iv wr => ∃ (k : Nat) (tv : Value), k ≤ cs.length ∧ iv = .int .i64 (k : Int) ∧ TH wR wr tv (thereF set cs s.left TT (t : Int) k)) (fun iv _ => cs.length - (intOf iv).toNat)
          case atStart => exact ⟨0, _, Nat.zero_le _, rfl, TH.start wR⟩
          case round =>
            obtain ⟨k, tv, hk, rfl, hth⟩ := hrel
            have hlw := HLP.out.grow hth.bel
            by_cases hkl : k < cs.length
            · have hki : (k : Int) < (cs.length : Int) := by omega
              have hkw : IntKind.i64.wrap ((k : Int) + 1) = (k : Int) + 1 := by rw [IntKind.wrap_i64]; omega
              obtain ⟨x, p, hx, hxp, hxx⟩ := HV.out.2.2.2.1.at hkl
              rcases HR.out.2.1 with h | ⟨bb, bo, rfl, hr1⟩
              · rw [h] at hkl; simp at hkl
              rcases HR.out.1 with h | ⟨ab, ao, rfl, hr3⟩
              · rw [h] at hxx; simp at hxx
              rcases HLA.out with h | rfl
              · rw [h] at h5; simp at h5; omega
              obtain ⟨bx0, -, bl0⟩ := hlw.box
              rw [hG] at bx0 bl0
              obtain ⟨c0, c1⟩ := co_at (fun q u hq => below_cell hlw.cb.fb.bel (hr1 q u hq)) hx
              have chi := (cr_at (fun q u hq => below_cell hlw.cb.fb.bel (hr3 q u hq)) hxx).2.2.2.2.1
              obtain ⟨v, hv⟩ : ∃ v, S8.L s.left k = v := ⟨_, rfl⟩
              obtain ⟨lv0, lvf, lvl⟩ := hlw.at (i := k) (by rw [HO.out.left, jsF_len]; exact hkl) hv
              have hnew := below_new wr (.cells #[.int .i64 x.k, .int .i64 x.a] 38)
              have bx5 := below_cell hnew bx0
              have hi5 := below_cell hnew chi
              have lv5 := below_cell hnew lv0
              have HTH : Hid (TH wR (wr.alloc (.cells #[.int .i64 x.k, .int .i64 x.a] 38)) tv (thereF set cs s.left TT (t : Int) k)) := hth.grow hnew
              obtain ⟨tb0, tf0, tl0⟩ := HTH.out.at
              obtain ⟨cs0, cf0, cl0⟩ := cells_of (l := [_, _]) (heap_alloc_new wr (.cells #[.int .i64 x.k, .int .i64 x.a] 38))
              have cg0 := cs0 0 _ rfl
              have cg1 := cs0 1 _ rfl
              have hcd : cs.getD k ⟨0, 0⟩ = x := by rw [List.getD_eq_getElem?_getD, hx]; rfl
              have HIS : Hid (isThere set cs s.left TT (t : Int) k = (decide (x.a ≤ (t : Int)) && decide (0 < v) && (decide (TT < 0) || (crOf set cs k).hi))) := by
                have e : isThere set cs s.left TT (t : Int) k = (decide (x.a ≤ (t : Int)) && decide (0 < v) && (decide (TT < 0) || (crOf set cs k).hi)) := by
                  unfold isThere hiOf
                  rw [hcd, hv]
                exact e
              have hpl : (p : Int) < (set.length : Int) := by have := (List.getElem?_eq_some_iff.1 hxx).1; omega
              generalize (crOf set cs k).hi = hb at *
              clear hr1 hr3 hx hxx hlw bx0 bl0 chi lv0 lvf lvl hnew cs0 cf0 hcd hv hth
              obtain ⟨xk, xa⟩ := x
              dsimp only at c0 c1 cg0 cg1 bx5 hi5 lv5 HTH HIS hxp tb0 tf0 tl0 cl0
              subst hxp
              go_upto_region 31 with fail
              clear c0 c1
              generalize wr.alloc (.cells #[.int .i64 (p : Int), .int .i64 xa] 38) = w5 at *
              generalize wr.heap.size = cg at *
              by_cases a0 : xa ≤ (t : Int)
              rotate_left 1
              · have a0b : decide (xa ≤ (t : Int)) = false := decide_eq_false a0
                have HF0 : Hid (isThere set cs s.left TT (t : Int) k = false) := by
                  have e := HIS.out
                  rw [a0b] at e; simp at e
                  exact e
                go_wp2_with fail
                refine ⟨⟨k + 1, tv, by omega, by simp, ?_⟩, by simp [intOf]; omega⟩
                rw [thereF_snoc, HF0.out, if_neg (by decide), List.append_nil]
                exact HTH.out
              have a0b : decide (xa ≤ (t : Int)) = true := decide_eq_true a0
              by_cases v0 : 0 < v
              rotate_left 1
              · have v0b : decide (0 < v) = false := decide_eq_false v0
                have HF0 : Hid (isThere set cs s.left TT (t : Int) k = false) := by
                  have e := HIS.out
                  rw [v0b] at e; simp at e
                  exact e
                go_wp2_with fail
                refine ⟨⟨k + 1, tv, by omega, by simp, ?_⟩, by simp [intOf]; omega⟩
                rw [thereF_snoc, HF0.out, if_neg (by decide), List.append_nil]
                exact HTH.out
              have v0b : decide (0 < v) = true := decide_eq_true v0
              by_cases T0 : TT < 0
              · have T0b : decide (TT < 0) = true := decide_eq_true T0
                have HF1 : Hid (isThere set cs s.left TT (t : Int) k = true) := by
                  have e := HIS.out
                  rw [a0b, v0b, T0b] at e; simp at e
                  exact e
                obtain ⟨na, nc, w6, hr6, ht6, hb6, hf6, hl6⟩ := HTH.out.push k (Nat.le_trans thereF_len (by omega))
                have HT6 : Hid (TH wR (w6.setCell ⟨wR.heap.size, 0, none⟩ (.slice na ((thereF set cs s.left TT (t : Int) k).length + 1) nc)) (.slice na ((thereF set cs s.left TT (t : Int) k).length + 1) nc) (thereF set cs s.left TT (t : Int) k ++ [k])) := ht6
                clear ht6
                go_wp2_with (at_builtin; refine append_knownM rfl (.tmp 147) (.tmp 149) 24 rfl rfl rfl hr6 ?_)
                refine ⟨⟨k + 1, .slice na ((thereF set cs s.left TT (t : Int) k).length + 1) nc, by omega, by simp, ?_⟩, by simp [intOf]; omega⟩
                rw [thereF_snoc, HF1.out, if_pos rfl]
                exact HT6.out
              have T0b : decide (TT < 0) = false := decide_eq_false T0
              cases hb with
              | true =>
                have HF1 : Hid (isThere set cs s.left TT (t : Int) k = true) := by
                  have e := HIS.out
                  rw [a0b, v0b] at e; simp at e
                  exact e
                obtain ⟨na, nc, w6, hr6, ht6, hb6, hf6, hl6⟩ := HTH.out.push k (Nat.le_trans thereF_len (by omega))
                have HT6 : Hid (TH wR (w6.setCell ⟨wR.heap.size, 0, none⟩ (.slice na ((thereF set cs s.left TT (t : Int) k).length + 1) nc)) (.slice na ((thereF set cs s.left TT (t : Int) k).length + 1) nc) (thereF set cs s.left TT (t : Int) k ++ [k])) := ht6
                clear ht6
                go_wp2_with (at_builtin; refine append_knownM rfl (.tmp 147) (.tmp 149) 24 rfl rfl rfl hr6 ?_)
                refine ⟨⟨k + 1, .slice na ((thereF set cs s.left TT (t : Int) k).length + 1) nc, by omega, by simp, ?_⟩, by simp [intOf]; omega⟩
                rw [thereF_snoc, HF1.out, if_pos rfl]
                exact HT6.out
              | false =>
                have HF0 : Hid (isThere set cs s.left TT (t : Int) k = false) := by
                  have e := HIS.out
                  rw [T0b] at e; simp at e
                  exact e
                go_wp2_with fail
                refine ⟨⟨k + 1, tv, by omega, by simp, ?_⟩, by simp [intOf]; omega⟩
                rw [thereF_snoc, HF0.out, if_neg (by decide), List.append_nil]
                exact HTH.out
            have hke : k = cs.length := by omega
            subst hke
            clear hkl hk
            by_cases h0 : thereF set cs s.left TT (t : Int) cs.length = []
            · rw [h0] at hth
              obtain ⟨ta, tc0, etv⟩ : ∃ a c, tv = .slice a 0 c := S8.own_slice hth.own
              subst etv
              have HTH : Hid (TH wR wr (.slice ta 0 tc0) []) := hth
              clear hth
              obtain ⟨b0, f0, l0⟩ := HTH.out.at
              go_upto_region 35 with (go_at_call 34; refine slStable_none.mono ?_; rintro r w7 ⟨rfl, hb7⟩; have H7 : Hid (TH wR w7 (.slice ta 0 tc0) []) := HTH.out.grow hb7; clear hb7)
              clear b0 f0 l0
              obtain ⟨b0, f0, l0⟩ := H7.out.at
              obtain ⟨na, nc, w8, hr8, h8⟩ := (HLP.out.grow H7.out.bel).push (-1) (by rw [HO.out.runs]; omega)
              have H8 : Hid (LP w w8 B lb eb ex (.slice ad set.length ac) (.slice bd cs.length bc) (.slice na (s.runs.length + 1) nc) s.left s.ends (s.runs ++ [-1])) := h8
              clear h8
              go_wp2_with (at_builtin; refine append_knownM rfl (.tmp 159) (.tmp 160) 24 rfl rfl rfl hr8 ?_)
              refine ⟨⟨t + 1, ⟨s.left, s.ends, s.runs ++ [-1]⟩, TT, na, nc, by omega, by simp, rfl, by simp, ?_, s, TT, -1, HP.out, best_none h0, rfl, ?_⟩, by simp [intOf]; omega⟩
              · have e := H8.out
                simpa using e
              · unfold turnT
                rw [if_neg (by omega)]
            · have hn1 : 1 ≤ (thereF set cs s.left TT (t : Int) cs.length).length := by
                have : (thereF set cs s.left TT (t : Int) cs.length).length ≠ 0 := fun e => h0 (List.length_eq_zero_iff.1 e)
                omega
              obtain ⟨g, cap, htv, hcall⟩ := sort_there (tk := tk) HLP.out hth HV.out.1 HV.out.2.1 HV.out.2.2.2.1 rfl hn1 h4
              subst htv
              rw [hG] at hcall
              have HTH : Hid (TH wR wr (.slice (some ⟨g, 0, none⟩) (thereF set cs s.left TT (t : Int) cs.length).length cap) (thereF set cs s.left TT (t : Int) cs.length)) := hth
              clear hth h0
              obtain ⟨b0, f0, l0⟩ := HTH.out.at
              generalize (thereF set cs s.left TT (t : Int) cs.length).length = m at *
              have hm0 : ((m : Int) == 0) = false := by rw [beq_eq_false_iff_ne]; omega
              have hm1 : (0 : Int) < (m : Int) := by omega
              have hm2 : ¬ (m : Int) = 0 := by omega
              go_upto_region 35 with (go_at_call 34; refine hcall.mono ?_; rintro r w7 ⟨rfl, xi, hbest, hxl, hx0, hc7, hb7, hl7, hbel7⟩; have HX : Hid (S8.IsBest (jsF set cs tk) 1 (vis (hiOf set cs) TT s.left) (t : Int) (xi : Int) ∧ xi < cs.length ∧ 0 < S8.L s.left xi ∧ Below wR.heap.size wR w7) := ⟨hbest, hxl, hx0, hbel7⟩; clear hbest hxl hx0 hbel7 hcall)
              clear b0 f0 l0
              have hxl := HX.out.2.1
              have hL7 := HLP.out.grow HX.out.2.2.2
              obtain ⟨na, nc, w8, hr8, h8⟩ := hL7.push (xi : Int) (by rw [HO.out.runs]; omega)
              obtain ⟨v, hv⟩ : ∃ v, S8.L s.left xi = v := ⟨_, rfl⟩
              have hv0 : 0 < v := by rw [← hv]; exact HX.out.2.2.1
              have hv1 : v ≤ 10000 := by rw [← hv]; exact HO.out.small xi
              have hll : xi < s.left.length := by rw [HO.out.left, jsF_len]; exact hxl
              obtain ⟨lv8, lf8, ll8⟩ := h8.at (i := xi) hll hv
              have HL9 : Hid (LP w (w8.setCell ⟨lb, xi, none⟩ (.int .i64 (v - 1))) B lb eb ex (.slice ad set.length ac) (.slice bd cs.length bc) (.slice na (s.runs.length + 1) nc) (s.left.set xi (v - 1)) s.ends (s.runs ++ [(xi : Int)])) := h8.setL hll (v - 1)
              have HVV : Hid (S8.L s.left xi = v) := hv
              rcases HLA.out with h | rfl
              · rw [h] at h5; simp at h5; omega
              have hvw : IntKind.i64.wrap (v - 1) = v - 1 := by rw [IntKind.wrap_i64]; omega
              have hxi : (xi : Int) < (cs.length : Int) := by omega
              have hxt : (xi : Int) < (tk.length : Int) := by omega
              clear hL7 h8 hv
              go_upto_region 40 with (at_builtin; refine append_knownM rfl (.tmp 165) (.tmp 167) 24 rfl rfl rfl hr8 ?_)
              clear hr8 lv8 lf8 ll8 hc7 hb7 hl7
              generalize w8.setCell ⟨lb, xi, none⟩ (.int .i64 (v - 1)) = w9 at *
              obtain ⟨x, p, hx, hxp, hxx⟩ := HV.out.2.2.2.1.at hxl
              obtain ⟨-, ⟨ha1, ha2⟩, hy1, hy2⟩ := HV.out.2.2.2.2.2.2 xi x hx
              obtain ⟨y, hy⟩ : ∃ y, tk[xi]? = some y := ⟨_, List.getElem?_eq_getElem (by omega)⟩
              have hyd : tk.getD xi 0 = y := by rw [List.getD_eq_getElem?_getD, hy]; rfl
              rw [hyd] at hy1 hy2
              rcases HR.out.2.1 with h | ⟨bb, bo, rfl, hr1⟩
              · rw [h] at hxl; simp at hxl
              rcases HR.out.2.2 with h | ⟨tb, to', rfl, hr2⟩
              · rw [h] at hy; simp at hy
              rcases HR.out.1 with h | ⟨ab, ao, rfl, hr3⟩
              · rw [h] at hxx; simp at hxx
              obtain ⟨bx0, bx1, bl0⟩ := HL9.out.box
              rw [hG] at bx0 bx1 bl0
              have hbel := HL9.out.cb.fb.bel
              obtain ⟨cx0, -⟩ := co_at (fun q u hq => below_cell hbel (hr1 q u hq)) hx
              rw [hxp] at cx0
              have hcr := cr_at (fun q u hq => below_cell hbel (hr3 q u hq)) hxx
              have ty9 := below_cell hbel (nu_at hr2 hy)
              have hokc := HOK.out _ (List.mem_of_getElem? hxx)
              have hord := HV.out.2.2.2.2.2.1 _ (List.mem_of_getElem? hxx)
              have HTD : Hid (turnT (jsF set cs tk) (fun j => (crOf set cs j).c) TT s t (xi : Int) = if v - 1 = 0 then TT else if (crOf set cs xi).hi = true ∧ y - (v - 1) = (crOf set cs xi).c ∧ TT < 0 then (t : Int) + 1 else TT) := by
                have e := turn_doc (tk := tk) (T := TT) (s := s) (t := t) hxl (by omega) hord (by rw [hyd]; exact hy2) (by rw [HVV.out]; omega)
                rw [HVV.out, hyd] at e
                exact e
              have hpl : (p : Int) < (set.length : Int) := by have := (List.getElem?_eq_some_iff.1 hxx).1; omega
              clear hr1 hr2 hr3 hx hxx hy hyd hxp hord hbel
              generalize crOf set cs xi = cr at *
              unfold okCr at hokc
              obtain ⟨y0, y1, y2, y3, y4, y5⟩ := hcr
              obtain ⟨xc, xh, xt, xd, hb, xp⟩ := cr
              dsimp only at y0 y1 y2 y3 y4 y5 HTD hokc hy2
              refine wp_region_noPanic ?_
              refine wp_region_held_drew (S := fun w' => w'.cell? ⟨G, 0, none⟩ = some (.slice (some ⟨ab, ao, none⟩) set.length ac) ∧ w'.cell? ⟨G + 1, 0, none⟩ = some (.slice (some ⟨bb, bo, none⟩) cs.length bc) ∧ w'.cell? ⟨bb, bo + xi * 2, none⟩ = some (.int .i64 (p : Int)) ∧ CrAt w' ab (ao + p * 6) ⟨xc, xh, xt, xd, hb, xp⟩) (by kernel_rfl) ⟨bx0, bx1, cx0, y0, y1, y2, y3, y4, y5⟩ (fun hHeld => ?_)
              refine take_at (i := 0) (n := 175) (v := ?_) rfl rfl (by kernel_rfl) (by kernel_rfl) (by kernel_rfl) (fun _ _ _ h => h) (Or.inl ⟨by rfl, ?_⟩) (by assumption) ?_
              rotate_left 1
              · intro wz hSw
                obtain ⟨s0, s1, s2, s3, s4, s5, s6, s7, s8⟩ := hSw
                first | (go_simp; done) | (go_simp; with_reducible rfl)
              simp only [List.set_cons_zero, List.set_cons_succ]
              refine take_at (i := 1) (n := 176) (v := ?_) rfl rfl (by kernel_rfl) (by kernel_rfl) (by kernel_rfl) (fun _ _ _ h => h) (Or.inl ⟨by rfl, ?_⟩) (by assumption) ?_
              rotate_left 1
              · intro wz hSw
                obtain ⟨s0, s1, s2, s3, s4, s5, s6, s7, s8⟩ := hSw
                first | (go_simp; done) | (go_simp; with_reducible rfl)
              simp only [List.set_cons_zero, List.set_cons_succ]
              refine take_at (i := 2) (n := 177) (v := ?_) rfl rfl (by kernel_rfl) (by kernel_rfl) (by kernel_rfl) (fun _ _ _ h => h) (Or.inl ⟨by rfl, ?_⟩) (by assumption) ?_
              rotate_left 1
              · intro wz hSw
                obtain ⟨s0, s1, s2, s3, s4, s5, s6, s7, s8⟩ := hSw
                first | (go_simp; done) | (go_simp; with_reducible rfl)
              simp only [List.set_cons_zero, List.set_cons_succ]
              refine take_at (i := 3) (n := 178) (v := ?_) rfl rfl (by kernel_rfl) (by kernel_rfl) (by kernel_rfl) (fun _ _ _ h => h) (Or.inl ⟨by rfl, ?_⟩) (by assumption) ?_
              rotate_left 1
              · intro wz hSw
                obtain ⟨s0, s1, s2, s3, s4, s5, s6, s7, s8⟩ := hSw
                first | (go_simp; done) | (go_simp; with_reducible rfl)
              simp only [List.set_cons_zero, List.set_cons_succ]
              refine take_at (i := 4) (n := 179) (v := ?_) rfl rfl (by kernel_rfl) (by kernel_rfl) (by kernel_rfl) (fun _ _ _ h => h) (Or.inl ⟨by rfl, ?_⟩) (by assumption) ?_
              rotate_left 1
              · intro wz hSw
                obtain ⟨s0, s1, s2, s3, s4, s5, s6, s7, s8⟩ := hSw
                first | (go_simp; done) | (go_simp; with_reducible rfl)
              simp only [List.set_cons_zero, List.set_cons_succ]
              refine take_at (i := 5) (n := 180) (v := ?_) rfl rfl (by kernel_rfl) (by kernel_rfl) (by kernel_rfl) (fun _ _ _ h => h) (Or.inl ⟨by rfl, ?_⟩) (by assumption) ?_
              rotate_left 1
              · intro wz hSw
                obtain ⟨s0, s1, s2, s3, s4, s5, s6, s7, s8⟩ := hSw
                first | (go_simp; done) | (go_simp; with_reducible rfl)
              simp only [List.set_cons_zero, List.set_cons_succ]
              refine take_at (i := 6) (n := 181) (v := ?_) rfl rfl (by kernel_rfl) (by kernel_rfl) (by kernel_rfl) (fun _ _ _ h => h) (Or.inl ⟨by rfl, ?_⟩) (by assumption) ?_
              rotate_left 1
              · intro wz hSw
                obtain ⟨s0, s1, s2, s3, s4, s5, s6, s7, s8⟩ := hSw
                first | (go_simp; done) | (go_simp; with_reducible rfl)
              simp only [List.set_cons_zero, List.set_cons_succ]
              refine take_at (i := 7) (n := 182) (v := ?_) rfl rfl (by kernel_rfl) (by kernel_rfl) (by kernel_rfl) (fun _ _ _ h => h) (Or.inl ⟨by rfl, ?_⟩) (by assumption) ?_
              rotate_left 1
              · intro wz hSw
                obtain ⟨s0, s1, s2, s3, s4, s5, s6, s7, s8⟩ := hSw
                first | (go_simp; done) | (go_simp; with_reducible rfl)
              simp only [List.set_cons_zero, List.set_cons_succ]
              refine wpAnyH_ready (rs := [8]) (by kernel_rfl) (by simp) ?_
              refine AllReadyH.cons rfl (fun K hK => ?_) AllReadyH.nil
              go_simp
              refine hK.out _ _ ⟨below_cell (below_new _ _) bx0, below_cell (below_new _ _) bx1, below_cell (below_new _ _) cx0, below_cell (below_new _ _) y0, below_cell (below_new _ _) y1, below_cell (below_new _ _) y2, below_cell (below_new _ _) y3, below_cell (below_new _ _) y4, below_cell (below_new _ _) y5⟩ (fun hHeld => ?_)
              clear hK K
              try simp only [List.set_cons_zero, List.set_cons_succ]
              refine wpAnyH_ready (rs := [9]) (by kernel_rfl) (by simp) ?_
              refine AllReadyH.cons rfl (fun K hK => ?_) AllReadyH.nil
              go_simp
              refine hK.out _ _ ⟨below_cell (below_new _ _) bx0, below_cell (below_new _ _) bx1, below_cell (below_new _ _) cx0, below_cell (below_new _ _) y0, below_cell (below_new _ _) y1, below_cell (below_new _ _) y2, below_cell (below_new _ _) y3, below_cell (below_new _ _) y4, below_cell (below_new _ _) y5⟩ (fun hHeld => ?_)
              clear hK K
              try simp only [List.set_cons_zero, List.set_cons_succ]
              refine wpAnyH_done (by kernel_rfl) ?_ _
              refine NoPanic.normal ?_
              clear hHeld
              have hnk := (below_new w9 (.cells #[.int .i64 xc, .int .i64 xh, .int .i64 xt, .int .i64 xd, .bool hb, .int .i64 xp] 35)).drew
              have hk : ((w9.alloc (.cells #[.int .i64 xc, .int .i64 xh, .int .i64 xt, .int .i64 xd, .bool hb, .int .i64 xp] 35)).drew).heap[w9.heap.size]? = some (.cells #[.int .i64 xc, .int .i64 xh, .int .i64 xt, .int .i64 xd, .bool hb, .int .i64 xp] 35) := heap_alloc_new w9 _
              have HLK : Hid (LP w ((w9.alloc (.cells #[.int .i64 xc, .int .i64 xh, .int .i64 xt, .int .i64 xd, .bool hb, .int .i64 xp] 35)).drew) B lb eb ex (.slice (some ⟨ab, ao, none⟩) set.length ac) (.slice (some ⟨bb, bo, none⟩) cs.length bc) (.slice na (s.runs.length + 1) nc) (s.left.set xi (v - 1)) s.ends (s.runs ++ [(xi : Int)])) := HL9.out.grow hnk
              have ty := below_cell hnk ty9
              obtain ⟨ks, -, kl⟩ := cells_of (l := [_, _, _, _, _, _]) hk
              have k0 := ks 0 _ rfl
              have k4 := ks 4 _ rfl
              clear ks hk hnk ty9 bx0 bx1 bl0 cx0 y0 y1 y2 y3 y4 y5
              generalize (w9.alloc (.cells #[.int .i64 xc, .int .i64 xh, .int .i64 xt, .int .i64 xd, .bool hb, .int .i64 xp] 35)).drew = w10 at *
              generalize w9.heap.size = gk at *
              generalize hu : v - 1 = u at *
              obtain ⟨lv9, -, ll9⟩ := HLK.out.at (i := xi) (v := u) (by rw [List.length_set]; exact hll) (by rw [S8.L_set hll, if_pos rfl])
              have hel : xi < s.ends.length := by rw [HO.out.ends, jsF_len]; exact hxl
              obtain ⟨e0, ef0, el0⟩ := HLK.out.atE (i := xi) hel rfl
              by_cases z : u = 0
              · have zb : (u == 0) = true := by simp [z]
                have HE : Hid (LP w (w10.setCell ⟨eb, xi, none⟩ (.int .i64 ((t : Int) + 1))) B lb eb ex (.slice (some ⟨ab, ao, none⟩) set.length ac) (.slice (some ⟨bb, bo, none⟩) cs.length bc) (.slice na (s.runs.length + 1) nc) (s.left.set xi u) (s.ends.set xi ((t : Int) + 1)) (s.runs ++ [(xi : Int)])) := HLK.out.setE xi ((t : Int) + 1)
                have HZ : Hid (u = 0) := z
                clear z
                go_wp2_with fail
                refine ⟨⟨t + 1, ⟨s.left.set xi u, s.ends.set xi ((t : Int) + 1), s.runs ++ [(xi : Int)]⟩, TT, na, nc, by omega, by simp, rfl, by simp, ?_, s, TT, (xi : Int), HP.out, HX.out.1, ?_, ?_⟩, by simp [intOf]; omega⟩
                · have e := HE.out
                  simpa using e
                · rw [after_someT, HVV.out, hu, if_pos HZ.out]
                · rw [HTD.out, if_pos HZ.out]
              have zb : (u == 0) = false := by simpa using z
              have HZ : Hid (¬ u = 0) := z
              have hyw : IntKind.i64.wrap (y - u) = y - u := by rw [IntKind.wrap_i64]; omega
              clear e0 ef0 el0
              go_upto_region 43 with fail
              have HS : ∀ W', Below w10.heap.size w10 W' → ∃ s' : S8.St, s' = s.after t (xi : Int) ∧ LP w W' B lb eb ex (.slice (some ⟨ab, ao, none⟩) set.length ac) (.slice (some ⟨bb, bo, none⟩) cs.length bc) (.slice na s'.runs.length nc) s'.left s'.ends s'.runs ∧ s'.runs.length = s.runs.length + 1 := fun W' hb' => by
                refine ⟨⟨s.left.set xi u, s.ends, s.runs ++ [(xi : Int)]⟩, ?_, ?_, by simp⟩
                · rw [after_someT, HVV.out, hu, if_neg HZ.out]
                · have e := HLK.out.grow hb'
                  simpa using e
              have HSD : Hid (∀ W', Below w10.heap.size w10 W' → ∃ s' : S8.St, s' = s.after t (xi : Int) ∧ LP w W' B lb eb ex (.slice (some ⟨ab, ao, none⟩) set.length ac) (.slice (some ⟨bb, bo, none⟩) cs.length bc) (.slice na s'.runs.length nc) s'.left s'.ends s'.runs ∧ s'.runs.length = s.runs.length + 1) := HS
              clear HS
              cases hb with
              | false =>
                refine wp_region_noPanic ?_
                refine wp_region_held_drew (S := fun w' => w'.cell? ⟨gk, 4, none⟩ = some (.bool false) ∧ w'.cell? ⟨gk, 0, none⟩ = some (.int .i64 xc) ∧ w'.cell? ⟨tb, to' + xi, none⟩ = some (.int .i64 y) ∧ w'.cell? ⟨lb, xi, none⟩ = some (.int .i64 u)) (by kernel_rfl) ⟨k4, k0, ty, lv9⟩ (fun hHeld => ?_)
                refine take_at (i := 0) (n := 193) (v := ?_) rfl rfl (by kernel_rfl) (by kernel_rfl) (by kernel_rfl) (fun _ _ _ h => h) (Or.inl ⟨by rfl, ?_⟩) (by assumption) ?_
                rotate_left 1
                · intro wz hSw
                  obtain ⟨s0, s1, s2, s3⟩ := hSw
                  first | (go_simp; done) | (go_simp; with_reducible rfl)
                simp only [List.set_cons_zero, List.set_cons_succ]
                refine take_at (i := 1) (n := 194) (v := ?_) rfl rfl (by kernel_rfl) (by kernel_rfl) (by kernel_rfl) (fun _ _ _ h => h) (Or.inl ⟨by rfl, ?_⟩) (by assumption) ?_
                rotate_left 1
                · intro wz hSw
                  obtain ⟨s0, s1, s2, s3⟩ := hSw
                  first | (go_simp; done) | (go_simp; with_reducible rfl)
                simp only [List.set_cons_zero, List.set_cons_succ]
                refine take_at (i := 2) (n := 195) (v := ?_) rfl rfl (by kernel_rfl) (by kernel_rfl) (by kernel_rfl) (fun _ _ _ h => h) (Or.inl ⟨by rfl, ?_⟩) (by assumption) ?_
                rotate_left 1
                · intro wz hSw
                  obtain ⟨s0, s1, s2, s3⟩ := hSw
                  first | (go_simp; done) | (go_simp; with_reducible rfl)
                simp only [List.set_cons_zero, List.set_cons_succ]
                refine take_at (i := 3) (n := 196) (v := undef) rfl rfl (by kernel_rfl) (by kernel_rfl) (by kernel_rfl) (fun _ _ _ h => h) (Or.inr ⟨by rfl, rfl⟩) (by assumption) ?_
                simp only [List.set_cons_zero, List.set_cons_succ]
                refine take_at (i := 4) (n := 197) (v := undef) rfl rfl (by kernel_rfl) (by kernel_rfl) (by kernel_rfl) (fun _ _ _ h => h) (Or.inr ⟨by rfl, rfl⟩) (by assumption) ?_
                simp only [List.set_cons_zero, List.set_cons_succ]
                refine take_at (i := 5) (n := 198) (v := undef) rfl rfl (by kernel_rfl) (by kernel_rfl) (by kernel_rfl) (fun _ _ _ h => h) (Or.inr ⟨by rfl, rfl⟩) (by assumption) ?_
                simp only [List.set_cons_zero, List.set_cons_succ]
                refine take_at (i := 6) (n := 199) (v := undef) rfl rfl (by kernel_rfl) (by kernel_rfl) (by kernel_rfl) (fun _ _ _ h => h) (Or.inr ⟨by rfl, rfl⟩) (by assumption) ?_
                simp only [List.set_cons_zero, List.set_cons_succ]
                refine take_at (i := 7) (n := 200) (v := undef) rfl rfl (by kernel_rfl) (by kernel_rfl) (by kernel_rfl) (fun _ _ _ h => h) (Or.inr ⟨by rfl, rfl⟩) (by assumption) ?_
                simp only [List.set_cons_zero, List.set_cons_succ]
                refine take_at (i := 8) (n := 201) (v := undef) rfl rfl (by kernel_rfl) (by kernel_rfl) (by kernel_rfl) (fun _ _ _ h => h) (Or.inr ⟨by rfl, rfl⟩) (by assumption) ?_
                simp only [List.set_cons_zero, List.set_cons_succ]
                refine take_at (i := 9) (n := 202) (v := undef) rfl rfl (by kernel_rfl) (by kernel_rfl) (by kernel_rfl) (fun _ _ _ h => h) (Or.inr ⟨by rfl, rfl⟩) (by assumption) ?_
                simp only [List.set_cons_zero, List.set_cons_succ]
                refine take_at (i := 10) (n := 203) (v := undef) rfl rfl (by kernel_rfl) (by kernel_rfl) (by kernel_rfl) (fun _ _ _ h => h) (Or.inr ⟨by rfl, rfl⟩) (by assumption) ?_
                simp only [List.set_cons_zero, List.set_cons_succ]
                refine take_at (i := 11) (n := 204) (v := undef) rfl rfl (by kernel_rfl) (by kernel_rfl) (by kernel_rfl) (fun _ _ _ h => h) (Or.inr ⟨by rfl, rfl⟩) (by assumption) ?_
                simp only [List.set_cons_zero, List.set_cons_succ]
                refine take_at (i := 12) (n := 205) (v := undef) rfl rfl (by kernel_rfl) (by kernel_rfl) (by kernel_rfl) (fun _ _ _ h => h) (Or.inr ⟨by rfl, rfl⟩) (by assumption) ?_
                simp only [List.set_cons_zero, List.set_cons_succ]
                refine take_at (i := 13) (n := 206) (v := undef) rfl rfl (by kernel_rfl) (by kernel_rfl) (by kernel_rfl) (fun _ _ _ h => h) (Or.inr ⟨by rfl, rfl⟩) (by assumption) ?_
                simp only [List.set_cons_zero, List.set_cons_succ]
                refine take_at (i := 14) (n := 207) (v := undef) rfl rfl (by kernel_rfl) (by kernel_rfl) (by kernel_rfl) (fun _ _ _ h => h) (Or.inr ⟨by rfl, rfl⟩) (by assumption) ?_
                simp only [List.set_cons_zero, List.set_cons_succ]
                refine take_at (i := 15) (n := 208) (v := ?_) rfl rfl (by kernel_rfl) (by kernel_rfl) (by kernel_rfl) (fun _ _ _ h => h) (Or.inl ⟨by rfl, ?_⟩) (by assumption) ?_
                rotate_left 1
                · intro wz hSw
                  obtain ⟨s0, s1, s2, s3⟩ := hSw
                  first | (go_simp; done) | (go_simp; with_reducible rfl)
                simp only [List.set_cons_zero, List.set_cons_succ]
                refine take_at (i := 16) (n := 209) (v := ?_) rfl rfl (by kernel_rfl) (by kernel_rfl) (by kernel_rfl) (fun _ _ _ h => h) (Or.inl ⟨by rfl, ?_⟩) (by assumption) ?_
                rotate_left 1
                · intro wz hSw
                  obtain ⟨s0, s1, s2, s3⟩ := hSw
                  first | (go_simp; done) | (go_simp; with_reducible rfl)
                simp only [List.set_cons_zero, List.set_cons_succ]
                refine take_at (i := 17) (n := 210) (v := undef) rfl rfl (by kernel_rfl) (by kernel_rfl) (by kernel_rfl) (fun _ _ _ h => h) (Or.inr ⟨by rfl, rfl⟩) (by assumption) ?_
                simp only [List.set_cons_zero, List.set_cons_succ]
                refine take_at (i := 18) (n := 211) (v := undef) rfl rfl (by kernel_rfl) (by kernel_rfl) (by kernel_rfl) (fun _ _ _ h => h) (Or.inr ⟨by rfl, rfl⟩) (by assumption) ?_
                simp only [List.set_cons_zero, List.set_cons_succ]
                refine take_at (i := 19) (n := 212) (v := ?_) rfl rfl (by kernel_rfl) (by kernel_rfl) (by kernel_rfl) (fun _ _ _ h => h) (Or.inl ⟨by rfl, ?_⟩) (by assumption) ?_
                rotate_left 1
                · intro wz hSw
                  obtain ⟨s0, s1, s2, s3⟩ := hSw
                  first | (go_simp; done) | (go_simp; with_reducible rfl)
                simp only [List.set_cons_zero, List.set_cons_succ]
                refine wpAnyH_done (by kernel_rfl) ?_ _
                refine NoPanic.normal ?_
                clear hHeld
                go_wp2_with fail
                obtain ⟨s', es, ls, le⟩ := HSD.out _ (Below.refl _ _).drew
                refine ⟨⟨t + 1, s', TT, na, nc, by omega, by rw [le], rfl, by simp, ls, s, TT, (xi : Int), HP.out, HX.out.1, es, ?_⟩, by simp [intOf]; omega⟩
                rw [HTD.out, if_neg HZ.out, if_neg (by simp)]
              | true =>
                by_cases eq : y - u = xc
                rotate_left 1
                · have eqb : (y - u == xc) = false := by simpa using eq
                  have HQ : Hid (¬ y - u = xc) := eq
                  refine wp_region_noPanic ?_
                  refine wp_region_held_drew (S := fun w' => w'.cell? ⟨gk, 4, none⟩ = some (.bool true) ∧ w'.cell? ⟨gk, 0, none⟩ = some (.int .i64 xc) ∧ w'.cell? ⟨tb, to' + xi, none⟩ = some (.int .i64 y) ∧ w'.cell? ⟨lb, xi, none⟩ = some (.int .i64 u)) (by kernel_rfl) ⟨k4, k0, ty, lv9⟩ (fun hHeld => ?_)
                  refine take_at (i := 0) (n := 193) (v := ?_) rfl rfl (by kernel_rfl) (by kernel_rfl) (by kernel_rfl) (fun _ _ _ h => h) (Or.inl ⟨by rfl, ?_⟩) (by assumption) ?_
                  rotate_left 1
                  · intro wz hSw
                    obtain ⟨s0, s1, s2, s3⟩ := hSw
                    first | (go_simp; done) | (go_simp; with_reducible rfl)
                  simp only [List.set_cons_zero, List.set_cons_succ]
                  refine take_at (i := 1) (n := 194) (v := ?_) rfl rfl (by kernel_rfl) (by kernel_rfl) (by kernel_rfl) (fun _ _ _ h => h) (Or.inl ⟨by rfl, ?_⟩) (by assumption) ?_
                  rotate_left 1
                  · intro wz hSw
                    obtain ⟨s0, s1, s2, s3⟩ := hSw
                    first | (go_simp; done) | (go_simp; with_reducible rfl)
                  simp only [List.set_cons_zero, List.set_cons_succ]
                  refine take_at (i := 2) (n := 195) (v := ?_) rfl rfl (by kernel_rfl) (by kernel_rfl) (by kernel_rfl) (fun _ _ _ h => h) (Or.inl ⟨by rfl, ?_⟩) (by assumption) ?_
                  rotate_left 1
                  · intro wz hSw
                    obtain ⟨s0, s1, s2, s3⟩ := hSw
                    first | (go_simp; done) | (go_simp; with_reducible rfl)
                  simp only [List.set_cons_zero, List.set_cons_succ]
                  refine take_at (i := 3) (n := 196) (v := ?_) rfl rfl (by kernel_rfl) (by kernel_rfl) (by kernel_rfl) (fun _ _ _ h => h) (Or.inl ⟨by rfl, ?_⟩) (by assumption) ?_
                  rotate_left 1
                  · intro wz hSw
                    obtain ⟨s0, s1, s2, s3⟩ := hSw
                    first | (go_simp; done) | (go_simp; with_reducible rfl)
                  simp only [List.set_cons_zero, List.set_cons_succ]
                  refine take_at (i := 4) (n := 197) (v := ?_) rfl rfl (by kernel_rfl) (by kernel_rfl) (by kernel_rfl) (fun _ _ _ h => h) (Or.inl ⟨by rfl, ?_⟩) (by assumption) ?_
                  rotate_left 1
                  · intro wz hSw
                    obtain ⟨s0, s1, s2, s3⟩ := hSw
                    first | (go_simp; done) | (go_simp; with_reducible rfl)
                  simp only [List.set_cons_zero, List.set_cons_succ]
                  refine take_at (i := 5) (n := 198) (v := ?_) rfl rfl (by kernel_rfl) (by kernel_rfl) (by kernel_rfl) (fun _ _ _ h => h) (Or.inl ⟨by rfl, ?_⟩) (by assumption) ?_
                  rotate_left 1
                  · intro wz hSw
                    obtain ⟨s0, s1, s2, s3⟩ := hSw
                    first | (go_simp; done) | (go_simp; with_reducible rfl)
                  simp only [List.set_cons_zero, List.set_cons_succ]
                  refine take_at (i := 6) (n := 199) (v := ?_) rfl rfl (by kernel_rfl) (by kernel_rfl) (by kernel_rfl) (fun _ _ _ h => h) (Or.inl ⟨by rfl, ?_⟩) (by assumption) ?_
                  rotate_left 1
                  · intro wz hSw
                    obtain ⟨s0, s1, s2, s3⟩ := hSw
                    first | (go_simp; done) | (go_simp; with_reducible rfl)
                  simp only [List.set_cons_zero, List.set_cons_succ]
                  refine take_at (i := 7) (n := 200) (v := ?_) rfl rfl (by kernel_rfl) (by kernel_rfl) (by kernel_rfl) (fun _ _ _ h => h) (Or.inl ⟨by rfl, ?_⟩) (by assumption) ?_
                  rotate_left 1
                  · intro wz hSw
                    obtain ⟨s0, s1, s2, s3⟩ := hSw
                    first | (go_simp; done) | (go_simp; with_reducible rfl)
                  simp only [List.set_cons_zero, List.set_cons_succ]
                  refine take_at (i := 8) (n := 201) (v := ?_) rfl rfl (by kernel_rfl) (by kernel_rfl) (by kernel_rfl) (fun _ _ _ h => h) (Or.inl ⟨by rfl, ?_⟩) (by assumption) ?_
                  rotate_left 1
                  · intro wz hSw
                    obtain ⟨s0, s1, s2, s3⟩ := hSw
                    first | (go_simp; done) | (go_simp; with_reducible rfl)
                  simp only [List.set_cons_zero, List.set_cons_succ]
                  refine take_at (i := 9) (n := 202) (v := ?_) rfl rfl (by kernel_rfl) (by kernel_rfl) (by kernel_rfl) (fun _ _ _ h => h) (Or.inl ⟨by rfl, ?_⟩) (by assumption) ?_
                  rotate_left 1
                  · intro wz hSw
                    obtain ⟨s0, s1, s2, s3⟩ := hSw
                    first | (go_simp; done) | (go_simp; with_reducible rfl)
                  simp only [List.set_cons_zero, List.set_cons_succ]
                  refine take_at (i := 10) (n := 203) (v := ?_) rfl rfl (by kernel_rfl) (by kernel_rfl) (by kernel_rfl) (fun _ _ _ h => h) (Or.inl ⟨by rfl, ?_⟩) (by assumption) ?_
                  rotate_left 1
                  · intro wz hSw
                    obtain ⟨s0, s1, s2, s3⟩ := hSw
                    first | (go_simp; done) | (go_simp; with_reducible rfl)
                  simp only [List.set_cons_zero, List.set_cons_succ]
                  refine take_at (i := 11) (n := 204) (v := ?_) rfl rfl (by kernel_rfl) (by kernel_rfl) (by kernel_rfl) (fun _ _ _ h => h) (Or.inl ⟨by rfl, ?_⟩) (by assumption) ?_
                  rotate_left 1
                  · intro wz hSw
                    obtain ⟨s0, s1, s2, s3⟩ := hSw
                    first | (go_simp; done) | (go_simp; with_reducible rfl)
                  simp only [List.set_cons_zero, List.set_cons_succ]
                  refine take_at (i := 12) (n := 205) (v := ?_) rfl rfl (by kernel_rfl) (by kernel_rfl) (by kernel_rfl) (fun _ _ _ h => h) (Or.inl ⟨by rfl, ?_⟩) (by assumption) ?_
                  rotate_left 1
                  · intro wz hSw
                    obtain ⟨s0, s1, s2, s3⟩ := hSw
                    first | (go_simp; done) | (go_simp; with_reducible rfl)
                  simp only [List.set_cons_zero, List.set_cons_succ]
                  refine take_at (i := 13) (n := 206) (v := ?_) rfl rfl (by kernel_rfl) (by kernel_rfl) (by kernel_rfl) (fun _ _ _ h => h) (Or.inl ⟨by rfl, ?_⟩) (by assumption) ?_
                  rotate_left 1
                  · intro wz hSw
                    obtain ⟨s0, s1, s2, s3⟩ := hSw
                    first | (go_simp; done) | (go_simp; with_reducible rfl)
                  simp only [List.set_cons_zero, List.set_cons_succ]
                  refine take_at (i := 14) (n := 207) (v := ?_) rfl rfl (by kernel_rfl) (by kernel_rfl) (by kernel_rfl) (fun _ _ _ h => h) (Or.inl ⟨by rfl, ?_⟩) (by assumption) ?_
                  rotate_left 1
                  · intro wz hSw
                    obtain ⟨s0, s1, s2, s3⟩ := hSw
                    first | (go_simp; done) | (go_simp; with_reducible rfl)
                  simp only [List.set_cons_zero, List.set_cons_succ]
                  refine take_at (i := 15) (n := 208) (v := ?_) rfl rfl (by kernel_rfl) (by kernel_rfl) (by kernel_rfl) (fun _ _ _ h => h) (Or.inl ⟨by rfl, ?_⟩) (by assumption) ?_
                  rotate_left 1
                  · intro wz hSw
                    obtain ⟨s0, s1, s2, s3⟩ := hSw
                    first | (go_simp; done) | (go_simp; with_reducible rfl)
                  simp only [List.set_cons_zero, List.set_cons_succ]
                  refine take_at (i := 16) (n := 209) (v := ?_) rfl rfl (by kernel_rfl) (by kernel_rfl) (by kernel_rfl) (fun _ _ _ h => h) (Or.inl ⟨by rfl, ?_⟩) (by assumption) ?_
                  rotate_left 1
                  · intro wz hSw
                    obtain ⟨s0, s1, s2, s3⟩ := hSw
                    first | (go_simp; done) | (go_simp; with_reducible rfl)
                  simp only [List.set_cons_zero, List.set_cons_succ]
                  refine take_at (i := 17) (n := 210) (v := undef) rfl rfl (by kernel_rfl) (by kernel_rfl) (by kernel_rfl) (fun _ _ _ h => h) (Or.inr ⟨by rfl, rfl⟩) (by assumption) ?_
                  simp only [List.set_cons_zero, List.set_cons_succ]
                  refine take_at (i := 18) (n := 211) (v := undef) rfl rfl (by kernel_rfl) (by kernel_rfl) (by kernel_rfl) (fun _ _ _ h => h) (Or.inr ⟨by rfl, rfl⟩) (by assumption) ?_
                  simp only [List.set_cons_zero, List.set_cons_succ]
                  refine take_at (i := 19) (n := 212) (v := ?_) rfl rfl (by kernel_rfl) (by kernel_rfl) (by kernel_rfl) (fun _ _ _ h => h) (Or.inl ⟨by rfl, ?_⟩) (by assumption) ?_
                  rotate_left 1
                  · intro wz hSw
                    obtain ⟨s0, s1, s2, s3⟩ := hSw
                    first | (go_simp; done) | (go_simp; with_reducible rfl)
                  simp only [List.set_cons_zero, List.set_cons_succ]
                  refine wpAnyH_done (by kernel_rfl) ?_ _
                  refine NoPanic.normal ?_
                  clear hHeld
                  go_wp2_with fail
                  obtain ⟨s', es, ls, le⟩ := HSD.out _ (Below.refl _ _).drew
                  refine ⟨⟨t + 1, s', TT, na, nc, by omega, by rw [le], rfl, by simp, ls, s, TT, (xi : Int), HP.out, HX.out.1, es, ?_⟩, by simp [intOf]; omega⟩
                  rw [HTD.out, if_neg HZ.out, if_neg (fun e => HQ.out e.2.1)]
                have eqb : (y - u == xc) = true := by simpa using eq
                have HQ : Hid (y - u = xc) := eq
                clear eq
                by_cases T0 : TT < 0
                · have T0b : decide (TT < 0) = true := decide_eq_true T0
                  have HT0 : Hid (TT < 0) := T0
                  refine wp_region_noPanic ?_
                  refine wp_region_held_drew (S := fun w' => w'.cell? ⟨gk, 4, none⟩ = some (.bool true) ∧ w'.cell? ⟨gk, 0, none⟩ = some (.int .i64 xc) ∧ w'.cell? ⟨tb, to' + xi, none⟩ = some (.int .i64 y) ∧ w'.cell? ⟨lb, xi, none⟩ = some (.int .i64 u)) (by kernel_rfl) ⟨k4, k0, ty, lv9⟩ (fun hHeld => ?_)
                  refine take_at (i := 0) (n := 193) (v := ?_) rfl rfl (by kernel_rfl) (by kernel_rfl) (by kernel_rfl) (fun _ _ _ h => h) (Or.inl ⟨by rfl, ?_⟩) (by assumption) ?_
                  rotate_left 1
                  · intro wz hSw
                    obtain ⟨s0, s1, s2, s3⟩ := hSw
                    first | (go_simp; done) | (go_simp; with_reducible rfl)
                  simp only [List.set_cons_zero, List.set_cons_succ]
                  refine take_at (i := 1) (n := 194) (v := ?_) rfl rfl (by kernel_rfl) (by kernel_rfl) (by kernel_rfl) (fun _ _ _ h => h) (Or.inl ⟨by rfl, ?_⟩) (by assumption) ?_
                  rotate_left 1
                  · intro wz hSw
                    obtain ⟨s0, s1, s2, s3⟩ := hSw
                    first | (go_simp; done) | (go_simp; with_reducible rfl)
                  simp only [List.set_cons_zero, List.set_cons_succ]
                  refine take_at (i := 2) (n := 195) (v := ?_) rfl rfl (by kernel_rfl) (by kernel_rfl) (by kernel_rfl) (fun _ _ _ h => h) (Or.inl ⟨by rfl, ?_⟩) (by assumption) ?_
                  rotate_left 1
                  · intro wz hSw
                    obtain ⟨s0, s1, s2, s3⟩ := hSw
                    first | (go_simp; done) | (go_simp; with_reducible rfl)
                  simp only [List.set_cons_zero, List.set_cons_succ]
                  refine take_at (i := 3) (n := 196) (v := ?_) rfl rfl (by kernel_rfl) (by kernel_rfl) (by kernel_rfl) (fun _ _ _ h => h) (Or.inl ⟨by rfl, ?_⟩) (by assumption) ?_
                  rotate_left 1
                  · intro wz hSw
                    obtain ⟨s0, s1, s2, s3⟩ := hSw
                    first | (go_simp; done) | (go_simp; with_reducible rfl)
                  simp only [List.set_cons_zero, List.set_cons_succ]
                  refine take_at (i := 4) (n := 197) (v := ?_) rfl rfl (by kernel_rfl) (by kernel_rfl) (by kernel_rfl) (fun _ _ _ h => h) (Or.inl ⟨by rfl, ?_⟩) (by assumption) ?_
                  rotate_left 1
                  · intro wz hSw
                    obtain ⟨s0, s1, s2, s3⟩ := hSw
                    first | (go_simp; done) | (go_simp; with_reducible rfl)
                  simp only [List.set_cons_zero, List.set_cons_succ]
                  refine take_at (i := 5) (n := 198) (v := ?_) rfl rfl (by kernel_rfl) (by kernel_rfl) (by kernel_rfl) (fun _ _ _ h => h) (Or.inl ⟨by rfl, ?_⟩) (by assumption) ?_
                  rotate_left 1
                  · intro wz hSw
                    obtain ⟨s0, s1, s2, s3⟩ := hSw
                    first | (go_simp; done) | (go_simp; with_reducible rfl)
                  simp only [List.set_cons_zero, List.set_cons_succ]
                  refine take_at (i := 6) (n := 199) (v := ?_) rfl rfl (by kernel_rfl) (by kernel_rfl) (by kernel_rfl) (fun _ _ _ h => h) (Or.inl ⟨by rfl, ?_⟩) (by assumption) ?_
                  rotate_left 1
                  · intro wz hSw
                    obtain ⟨s0, s1, s2, s3⟩ := hSw
                    first | (go_simp; done) | (go_simp; with_reducible rfl)
                  simp only [List.set_cons_zero, List.set_cons_succ]
                  refine take_at (i := 7) (n := 200) (v := ?_) rfl rfl (by kernel_rfl) (by kernel_rfl) (by kernel_rfl) (fun _ _ _ h => h) (Or.inl ⟨by rfl, ?_⟩) (by assumption) ?_
                  rotate_left 1
                  · intro wz hSw
                    obtain ⟨s0, s1, s2, s3⟩ := hSw
                    first | (go_simp; done) | (go_simp; with_reducible rfl)
                  simp only [List.set_cons_zero, List.set_cons_succ]
                  refine take_at (i := 8) (n := 201) (v := ?_) rfl rfl (by kernel_rfl) (by kernel_rfl) (by kernel_rfl) (fun _ _ _ h => h) (Or.inl ⟨by rfl, ?_⟩) (by assumption) ?_
                  rotate_left 1
                  · intro wz hSw
                    obtain ⟨s0, s1, s2, s3⟩ := hSw
                    first | (go_simp; done) | (go_simp; with_reducible rfl)
                  simp only [List.set_cons_zero, List.set_cons_succ]
                  refine take_at (i := 9) (n := 202) (v := ?_) rfl rfl (by kernel_rfl) (by kernel_rfl) (by kernel_rfl) (fun _ _ _ h => h) (Or.inl ⟨by rfl, ?_⟩) (by assumption) ?_
                  rotate_left 1
                  · intro wz hSw
                    obtain ⟨s0, s1, s2, s3⟩ := hSw
                    first | (go_simp; done) | (go_simp; with_reducible rfl)
                  simp only [List.set_cons_zero, List.set_cons_succ]
                  refine take_at (i := 10) (n := 203) (v := ?_) rfl rfl (by kernel_rfl) (by kernel_rfl) (by kernel_rfl) (fun _ _ _ h => h) (Or.inl ⟨by rfl, ?_⟩) (by assumption) ?_
                  rotate_left 1
                  · intro wz hSw
                    obtain ⟨s0, s1, s2, s3⟩ := hSw
                    first | (go_simp; done) | (go_simp; with_reducible rfl)
                  simp only [List.set_cons_zero, List.set_cons_succ]
                  refine take_at (i := 11) (n := 204) (v := ?_) rfl rfl (by kernel_rfl) (by kernel_rfl) (by kernel_rfl) (fun _ _ _ h => h) (Or.inl ⟨by rfl, ?_⟩) (by assumption) ?_
                  rotate_left 1
                  · intro wz hSw
                    obtain ⟨s0, s1, s2, s3⟩ := hSw
                    first | (go_simp; done) | (go_simp; with_reducible rfl)
                  simp only [List.set_cons_zero, List.set_cons_succ]
                  refine take_at (i := 12) (n := 205) (v := ?_) rfl rfl (by kernel_rfl) (by kernel_rfl) (by kernel_rfl) (fun _ _ _ h => h) (Or.inl ⟨by rfl, ?_⟩) (by assumption) ?_
                  rotate_left 1
                  · intro wz hSw
                    obtain ⟨s0, s1, s2, s3⟩ := hSw
                    first | (go_simp; done) | (go_simp; with_reducible rfl)
                  simp only [List.set_cons_zero, List.set_cons_succ]
                  refine take_at (i := 13) (n := 206) (v := ?_) rfl rfl (by kernel_rfl) (by kernel_rfl) (by kernel_rfl) (fun _ _ _ h => h) (Or.inl ⟨by rfl, ?_⟩) (by assumption) ?_
                  rotate_left 1
                  · intro wz hSw
                    obtain ⟨s0, s1, s2, s3⟩ := hSw
                    first | (go_simp; done) | (go_simp; with_reducible rfl)
                  simp only [List.set_cons_zero, List.set_cons_succ]
                  refine take_at (i := 14) (n := 207) (v := ?_) rfl rfl (by kernel_rfl) (by kernel_rfl) (by kernel_rfl) (fun _ _ _ h => h) (Or.inl ⟨by rfl, ?_⟩) (by assumption) ?_
                  rotate_left 1
                  · intro wz hSw
                    obtain ⟨s0, s1, s2, s3⟩ := hSw
                    first | (go_simp; done) | (go_simp; with_reducible rfl)
                  simp only [List.set_cons_zero, List.set_cons_succ]
                  refine take_at (i := 15) (n := 208) (v := ?_) rfl rfl (by kernel_rfl) (by kernel_rfl) (by kernel_rfl) (fun _ _ _ h => h) (Or.inl ⟨by rfl, ?_⟩) (by assumption) ?_
                  rotate_left 1
                  · intro wz hSw
                    obtain ⟨s0, s1, s2, s3⟩ := hSw
                    first | (go_simp; done) | (go_simp; with_reducible rfl)
                  simp only [List.set_cons_zero, List.set_cons_succ]
                  refine take_at (i := 16) (n := 209) (v := ?_) rfl rfl (by kernel_rfl) (by kernel_rfl) (by kernel_rfl) (fun _ _ _ h => h) (Or.inl ⟨by rfl, ?_⟩) (by assumption) ?_
                  rotate_left 1
                  · intro wz hSw
                    obtain ⟨s0, s1, s2, s3⟩ := hSw
                    first | (go_simp; done) | (go_simp; with_reducible rfl)
                  simp only [List.set_cons_zero, List.set_cons_succ]
                  refine take_at (i := 17) (n := 210) (v := ?_) rfl rfl (by kernel_rfl) (by kernel_rfl) (by kernel_rfl) (fun _ _ _ h => h) (Or.inl ⟨by rfl, ?_⟩) (by assumption) ?_
                  rotate_left 1
                  · intro wz hSw
                    obtain ⟨s0, s1, s2, s3⟩ := hSw
                    first | (go_simp; done) | (go_simp; with_reducible rfl)
                  simp only [List.set_cons_zero, List.set_cons_succ]
                  refine take_at (i := 18) (n := 211) (v := ?_) rfl rfl (by kernel_rfl) (by kernel_rfl) (by kernel_rfl) (fun _ _ _ h => h) (Or.inl ⟨by rfl, ?_⟩) (by assumption) ?_
                  rotate_left 1
                  · intro wz hSw
                    obtain ⟨s0, s1, s2, s3⟩ := hSw
                    first | (go_simp; done) | (go_simp; with_reducible rfl)
                  simp only [List.set_cons_zero, List.set_cons_succ]
                  refine take_at (i := 19) (n := 212) (v := ?_) rfl rfl (by kernel_rfl) (by kernel_rfl) (by kernel_rfl) (fun _ _ _ h => h) (Or.inl ⟨by rfl, ?_⟩) (by assumption) ?_
                  rotate_left 1
                  · intro wz hSw
                    obtain ⟨s0, s1, s2, s3⟩ := hSw
                    first | (go_simp; done) | (go_simp; with_reducible rfl)
                  simp only [List.set_cons_zero, List.set_cons_succ]
                  refine wpAnyH_done (by kernel_rfl) ?_ _
                  refine NoPanic.normal ?_
                  clear hHeld
                  go_wp2_with fail
                  obtain ⟨s', es, ls, le⟩ := HSD.out _ (Below.refl _ _).drew
                  refine ⟨⟨t + 1, s', (t : Int) + 1, na, nc, by omega, by rw [le], rfl, by simp, ls, s, TT, (xi : Int), HP.out, HX.out.1, es, ?_⟩, by simp [intOf]; omega⟩
                  rw [HTD.out, if_neg HZ.out, if_pos ⟨rfl, HQ.out, HT0.out⟩]
                · have T0b : decide (TT < 0) = false := decide_eq_false T0
                  have HT0 : Hid (¬ TT < 0) := T0
                  refine wp_region_noPanic ?_
                  refine wp_region_held_drew (S := fun w' => w'.cell? ⟨gk, 4, none⟩ = some (.bool true) ∧ w'.cell? ⟨gk, 0, none⟩ = some (.int .i64 xc) ∧ w'.cell? ⟨tb, to' + xi, none⟩ = some (.int .i64 y) ∧ w'.cell? ⟨lb, xi, none⟩ = some (.int .i64 u)) (by kernel_rfl) ⟨k4, k0, ty, lv9⟩ (fun hHeld => ?_)
                  refine take_at (i := 0) (n := 193) (v := ?_) rfl rfl (by kernel_rfl) (by kernel_rfl) (by kernel_rfl) (fun _ _ _ h => h) (Or.inl ⟨by rfl, ?_⟩) (by assumption) ?_
                  rotate_left 1
                  · intro wz hSw
                    obtain ⟨s0, s1, s2, s3⟩ := hSw
                    first | (go_simp; done) | (go_simp; with_reducible rfl)
                  simp only [List.set_cons_zero, List.set_cons_succ]
                  refine take_at (i := 1) (n := 194) (v := ?_) rfl rfl (by kernel_rfl) (by kernel_rfl) (by kernel_rfl) (fun _ _ _ h => h) (Or.inl ⟨by rfl, ?_⟩) (by assumption) ?_
                  rotate_left 1
                  · intro wz hSw
                    obtain ⟨s0, s1, s2, s3⟩ := hSw
                    first | (go_simp; done) | (go_simp; with_reducible rfl)
                  simp only [List.set_cons_zero, List.set_cons_succ]
                  refine take_at (i := 2) (n := 195) (v := ?_) rfl rfl (by kernel_rfl) (by kernel_rfl) (by kernel_rfl) (fun _ _ _ h => h) (Or.inl ⟨by rfl, ?_⟩) (by assumption) ?_
                  rotate_left 1
                  · intro wz hSw
                    obtain ⟨s0, s1, s2, s3⟩ := hSw
                    first | (go_simp; done) | (go_simp; with_reducible rfl)
                  simp only [List.set_cons_zero, List.set_cons_succ]
                  refine take_at (i := 3) (n := 196) (v := ?_) rfl rfl (by kernel_rfl) (by kernel_rfl) (by kernel_rfl) (fun _ _ _ h => h) (Or.inl ⟨by rfl, ?_⟩) (by assumption) ?_
                  rotate_left 1
                  · intro wz hSw
                    obtain ⟨s0, s1, s2, s3⟩ := hSw
                    first | (go_simp; done) | (go_simp; with_reducible rfl)
                  simp only [List.set_cons_zero, List.set_cons_succ]
                  refine take_at (i := 4) (n := 197) (v := ?_) rfl rfl (by kernel_rfl) (by kernel_rfl) (by kernel_rfl) (fun _ _ _ h => h) (Or.inl ⟨by rfl, ?_⟩) (by assumption) ?_
                  rotate_left 1
                  · intro wz hSw
                    obtain ⟨s0, s1, s2, s3⟩ := hSw
                    first | (go_simp; done) | (go_simp; with_reducible rfl)
                  simp only [List.set_cons_zero, List.set_cons_succ]
                  refine take_at (i := 5) (n := 198) (v := ?_) rfl rfl (by kernel_rfl) (by kernel_rfl) (by kernel_rfl) (fun _ _ _ h => h) (Or.inl ⟨by rfl, ?_⟩) (by assumption) ?_
                  rotate_left 1
                  · intro wz hSw
                    obtain ⟨s0, s1, s2, s3⟩ := hSw
                    first | (go_simp; done) | (go_simp; with_reducible rfl)
                  simp only [List.set_cons_zero, List.set_cons_succ]
                  refine take_at (i := 6) (n := 199) (v := ?_) rfl rfl (by kernel_rfl) (by kernel_rfl) (by kernel_rfl) (fun _ _ _ h => h) (Or.inl ⟨by rfl, ?_⟩) (by assumption) ?_
                  rotate_left 1
                  · intro wz hSw
                    obtain ⟨s0, s1, s2, s3⟩ := hSw
                    first | (go_simp; done) | (go_simp; with_reducible rfl)
                  simp only [List.set_cons_zero, List.set_cons_succ]
                  refine take_at (i := 7) (n := 200) (v := ?_) rfl rfl (by kernel_rfl) (by kernel_rfl) (by kernel_rfl) (fun _ _ _ h => h) (Or.inl ⟨by rfl, ?_⟩) (by assumption) ?_
                  rotate_left 1
                  · intro wz hSw
                    obtain ⟨s0, s1, s2, s3⟩ := hSw
                    first | (go_simp; done) | (go_simp; with_reducible rfl)
                  simp only [List.set_cons_zero, List.set_cons_succ]
                  refine take_at (i := 8) (n := 201) (v := ?_) rfl rfl (by kernel_rfl) (by kernel_rfl) (by kernel_rfl) (fun _ _ _ h => h) (Or.inl ⟨by rfl, ?_⟩) (by assumption) ?_
                  rotate_left 1
                  · intro wz hSw
                    obtain ⟨s0, s1, s2, s3⟩ := hSw
                    first | (go_simp; done) | (go_simp; with_reducible rfl)
                  simp only [List.set_cons_zero, List.set_cons_succ]
                  refine take_at (i := 9) (n := 202) (v := ?_) rfl rfl (by kernel_rfl) (by kernel_rfl) (by kernel_rfl) (fun _ _ _ h => h) (Or.inl ⟨by rfl, ?_⟩) (by assumption) ?_
                  rotate_left 1
                  · intro wz hSw
                    obtain ⟨s0, s1, s2, s3⟩ := hSw
                    first | (go_simp; done) | (go_simp; with_reducible rfl)
                  simp only [List.set_cons_zero, List.set_cons_succ]
                  refine take_at (i := 10) (n := 203) (v := ?_) rfl rfl (by kernel_rfl) (by kernel_rfl) (by kernel_rfl) (fun _ _ _ h => h) (Or.inl ⟨by rfl, ?_⟩) (by assumption) ?_
                  rotate_left 1
                  · intro wz hSw
                    obtain ⟨s0, s1, s2, s3⟩ := hSw
                    first | (go_simp; done) | (go_simp; with_reducible rfl)
                  simp only [List.set_cons_zero, List.set_cons_succ]
                  refine take_at (i := 11) (n := 204) (v := ?_) rfl rfl (by kernel_rfl) (by kernel_rfl) (by kernel_rfl) (fun _ _ _ h => h) (Or.inl ⟨by rfl, ?_⟩) (by assumption) ?_
                  rotate_left 1
                  · intro wz hSw
                    obtain ⟨s0, s1, s2, s3⟩ := hSw
                    first | (go_simp; done) | (go_simp; with_reducible rfl)
                  simp only [List.set_cons_zero, List.set_cons_succ]
                  refine take_at (i := 12) (n := 205) (v := ?_) rfl rfl (by kernel_rfl) (by kernel_rfl) (by kernel_rfl) (fun _ _ _ h => h) (Or.inl ⟨by rfl, ?_⟩) (by assumption) ?_
                  rotate_left 1
                  · intro wz hSw
                    obtain ⟨s0, s1, s2, s3⟩ := hSw
                    first | (go_simp; done) | (go_simp; with_reducible rfl)
                  simp only [List.set_cons_zero, List.set_cons_succ]
                  refine take_at (i := 13) (n := 206) (v := ?_) rfl rfl (by kernel_rfl) (by kernel_rfl) (by kernel_rfl) (fun _ _ _ h => h) (Or.inl ⟨by rfl, ?_⟩) (by assumption) ?_
                  rotate_left 1
                  · intro wz hSw
                    obtain ⟨s0, s1, s2, s3⟩ := hSw
                    first | (go_simp; done) | (go_simp; with_reducible rfl)
                  simp only [List.set_cons_zero, List.set_cons_succ]
                  refine take_at (i := 14) (n := 207) (v := ?_) rfl rfl (by kernel_rfl) (by kernel_rfl) (by kernel_rfl) (fun _ _ _ h => h) (Or.inl ⟨by rfl, ?_⟩) (by assumption) ?_
                  rotate_left 1
                  · intro wz hSw
                    obtain ⟨s0, s1, s2, s3⟩ := hSw
                    first | (go_simp; done) | (go_simp; with_reducible rfl)
                  simp only [List.set_cons_zero, List.set_cons_succ]
                  refine take_at (i := 15) (n := 208) (v := ?_) rfl rfl (by kernel_rfl) (by kernel_rfl) (by kernel_rfl) (fun _ _ _ h => h) (Or.inl ⟨by rfl, ?_⟩) (by assumption) ?_
                  rotate_left 1
                  · intro wz hSw
                    obtain ⟨s0, s1, s2, s3⟩ := hSw
                    first | (go_simp; done) | (go_simp; with_reducible rfl)
                  simp only [List.set_cons_zero, List.set_cons_succ]
                  refine take_at (i := 16) (n := 209) (v := ?_) rfl rfl (by kernel_rfl) (by kernel_rfl) (by kernel_rfl) (fun _ _ _ h => h) (Or.inl ⟨by rfl, ?_⟩) (by assumption) ?_
                  rotate_left 1
                  · intro wz hSw
                    obtain ⟨s0, s1, s2, s3⟩ := hSw
                    first | (go_simp; done) | (go_simp; with_reducible rfl)
                  simp only [List.set_cons_zero, List.set_cons_succ]
                  refine take_at (i := 17) (n := 210) (v := ?_) rfl rfl (by kernel_rfl) (by kernel_rfl) (by kernel_rfl) (fun _ _ _ h => h) (Or.inl ⟨by rfl, ?_⟩) (by assumption) ?_
                  rotate_left 1
                  · intro wz hSw
                    obtain ⟨s0, s1, s2, s3⟩ := hSw
                    first | (go_simp; done) | (go_simp; with_reducible rfl)
                  simp only [List.set_cons_zero, List.set_cons_succ]
                  refine take_at (i := 18) (n := 211) (v := ?_) rfl rfl (by kernel_rfl) (by kernel_rfl) (by kernel_rfl) (fun _ _ _ h => h) (Or.inl ⟨by rfl, ?_⟩) (by assumption) ?_
                  rotate_left 1
                  · intro wz hSw
                    obtain ⟨s0, s1, s2, s3⟩ := hSw
                    first | (go_simp; done) | (go_simp; with_reducible rfl)
                  simp only [List.set_cons_zero, List.set_cons_succ]
                  refine take_at (i := 19) (n := 212) (v := ?_) rfl rfl (by kernel_rfl) (by kernel_rfl) (by kernel_rfl) (fun _ _ _ h => h) (Or.inl ⟨by rfl, ?_⟩) (by assumption) ?_
                  rotate_left 1
                  · intro wz hSw
                    obtain ⟨s0, s1, s2, s3⟩ := hSw
                    first | (go_simp; done) | (go_simp; with_reducible rfl)
                  simp only [List.set_cons_zero, List.set_cons_succ]
                  refine wpAnyH_done (by kernel_rfl) ?_ _
                  refine NoPanic.normal ?_
                  clear hHeld
                  go_wp2_with fail
                  obtain ⟨s', es, ls, le⟩ := HSD.out _ (Below.refl _ _).drew
                  refine ⟨⟨t + 1, s', TT, na, nc, by omega, by rw [le], rfl, by simp, ls, s, TT, (xi : Int), HP.out, HX.out.1, es, ?_⟩, by simp [intOf]; omega⟩
                  rw [HTD.out, if_neg HZ.out, if_neg (fun e => HT0.out e.2.2)]
        have hte : t = n := by omega
        subst hte
        have HLF : Hid (LP w wr B lb eb ex (.slice ad set.length ac) (.slice bd cs.length bc) (.slice ra s.runs.length rc) s.left s.ends s.runs) := hlp
        obtain ⟨qs, qf, ql⟩ := cells_of (l := [_, _]) hlp.cb.fb.res
        have q0 := qs 0 _ rfl
        have q1 := qs 1 _ rfl
        have qf0 := qf 0
        have qf1 := qf 1
        rw [hG] at q0 q1 qf0 qf1 ql
        clear qs qf hlp htn
        go_wp2_with fail
        refine bodyPost_ret (PC_ends (g := G + 2) (c := .int .i64 0) (k := .int .i64 0) (set_two (by rw [← hG]; exact HLF.out.cb.fb.res)) rfl rfl rfl rfl) rfl ?_
        have hlo := HLF.out.lo
        have hhi := HLF.out.hi
        rw [hG] at hlo
        have keep : ∀ q, q ≠ G + 2 → ((wr.setCell ⟨G + 2, 0, none⟩ (.int .i64 0)).setCell ⟨G + 2, 1, none⟩ (.int .i64 0)).heap[q]? = wr.heap[q]? := fun q hq => (Below.heap_setCell _ _ _ _ hq).trans (Below.heap_setCell _ _ _ _ hq)
        refine ⟨s, TT, _, _, rfl, HP.out, own_row (HLF.out.own.same (fun g e => keep g (by have := (HLF.out.own.lt g e).1; omega))), row_blk ((keep eb (by omega)).trans HLF.out.ev) (by rw [HO.out.ends, jsF_len]), ?_⟩
        have e := HLF.out.cb.fb.set (.int .i64 0) (.int .i64 0)
        rw [hG] at e
        rw [hG]
        exact e

end Go.Proofs.YtccoobcggbbciaiGreatDoor
