import Derived.Test.YtccoobcggbbciamHV3
import Derived.Test.YtccoobcggbbciamHK0
import Derived.Test.YtccoobcggbbciamTK
import Derived.Deep.RegionHeld3
namespace Go.Proofs.Ytccoobcggbbciam
open Go.ChangeShapes Go.WideShapes Go.ChangeAt Go.RowKit

theorem run_ends {w : World} {p q : Value} {a : Act} (h2 : a.tmps[2]?.getD undef = p) (h3 : a.tmps[3]?.getD undef = q) : (results Try.f38 a.tmps).run Try.prog w = .ok (.tuple #[p, q]) w := by
  simp [results, Try.results38, go_sem, h2, h3]

def RunPost (W : World) (g i : Nat) (v : Value) (p : Pc) (r : List Pc) (rr : Ending) (w' : World) : Prop := ∃ W1 v', W.grownBy W1 v.ownBlock ∧ (∃ z, LnR W1 v ({ p with lf := z } :: r)) ∧ v'.ownBlock = v.ownBlock ∧ LnR W1 v' (runQ (p :: r)) ∧ rr = .returned (.tuple #[.int .i64 p.cm, .bool (runD (p :: r))]) ∧ ((runD (p :: r) = true ∧ w' = W1.setCell ⟨g, i, none⟩ v') ∨ (runD (p :: r) = false ∧ v' = v ∧ w' = W1))

set_option maxRecDepth 20000 in
set_option maxHeartbeats 4000000 in
theorem run_any (W : World) (g i : Nat) (v : Value) (p : Pc) (r : List Pc) (hc : W.cell? ⟨g, i, none⟩ = some v) (hf : W.frozen? ⟨g, i, none⟩ = false) (hl : LnR W v (p :: r)) (hne : v.ownBlock ≠ some g) (h1 : 1 ≤ p.lf) (h2 : p.lf ≤ 10000) : Calls Try.prog 38 #[.pointer (some ⟨g, i, none⟩)] W (RunPost W g i v p r) := by
  obtain ⟨gg, o, c, rfl, hcap, c0, c1, c2, cf, lg, hT, hS⟩ := hl.head
  obtain ⟨hS1, hS2, hS3⟩ := hS (p.lf - 1)
  have hgg : gg ≠ g := fun e => hne (by rw [e]; rfl)
  have l2 := World.block_lt_of_cell? _ _ hc
  have hw : IntKind.i64.wrap (p.lf - 1) = p.lf - 1 := by rw [IntKind.wrap_i64]; omega
  have HS : Hid (LnR (W.setCell ⟨gg, o + 2, none⟩ (.int .i64 (p.lf - 1))) (.slice (some ⟨gg, o, none⟩) (r.length + 1) c) ({ p with lf := p.lf - 1 } :: r) ∧ W.grownBy (W.setCell ⟨gg, o + 2, none⟩ (.int .i64 (p.lf - 1))) (some gg) ∧ LnR (W.setCell ⟨gg, o + 2, none⟩ (.int .i64 (p.lf - 1))) (.slice (if c = 1 then some ⟨gg, o, none⟩ else some ⟨gg, o + 3, none⟩) r.length (c - 1)) r) := ⟨hS1, hS2, hS3⟩
  clear hS hS1 hS2 hS3 hT hl hne
  obtain ⟨cm, si, lf⟩ := p
  dsimp only at *
  have hr0 : (0 : Int) < ((r.length + 1 : Nat) : Int) := by omega
  have hr1 : (1 : Int) ≤ ((r.length + 1 : Nat) : Int) := by omega
  have hr4 : (1 : Int) ≤ (r.length : Int) + 1 := by omega
  have hr5 : (0 : Int) < (r.length : Int) + 1 := by omega
  have hr2 : 1 ≤ r.length + 1 := by omega
  have hr3 : 1 ≤ c := by omega
  by_cases hlf : 0 < lf - 1
  · have e : Hid (runD (⟨cm, si, lf⟩ :: r) = false) := by
      show (!decide (0 < lf - 1)) = false
      rw [decide_eq_true hlf]; rfl
    have e2 : Hid (runQ (⟨cm, si, lf⟩ :: r) = ⟨cm, si, lf - 1⟩ :: r) := if_pos hlf
    go_enter Try.func38, Try.ntmps38
    go_wp2_with fail
    refine bodyPost_ret (run_ends (p := .int .i64 cm) (q := .bool false) rfl rfl) rfl ?_
    exact ⟨_, _, HS.out.2.1, ⟨_, HS.out.1⟩, rfl, by rw [e2.out]; exact HS.out.1, by rw [e.out], .inr ⟨e.out, rfl, rfl⟩⟩
  · have e : Hid (runD (⟨cm, si, lf⟩ :: r) = true) := by
      show (!decide (0 < lf - 1)) = true
      rw [decide_eq_false hlf]; rfl
    have e2 : Hid (runQ (⟨cm, si, lf⟩ :: r) = r) := if_neg hlf
    by_cases e1 : c = 1
    · subst e1
      have hrn : r = [] := List.eq_nil_of_length_eq_zero (by omega)
      subst hrn
      clear hr0 hr1 hr4 hr5 hr2 hr3 hcap
      have HT : Hid (LnR (W.setCell ⟨gg, o + 2, none⟩ (.int .i64 (lf - 1))) (.slice (some ⟨gg, o, none⟩) 0 0) []) := by
        have h9 := HS.out.2.2
        rw [if_pos rfl] at h9
        exact h9
      go_enter Try.func38, Try.ntmps38
      go_wp2_with fail
      refine bodyPost_ret (run_ends (p := .int .i64 cm) (q := .bool true) rfl rfl) rfl ?_
      exact ⟨_, .slice (some ⟨gg, o, none⟩) 0 0, HS.out.2.1, ⟨_, HS.out.1⟩, rfl, by rw [e2.out]; exact HT.out, by rw [e.out], .inl ⟨e.out, rfl⟩⟩
    · have HT : Hid (LnR (W.setCell ⟨gg, o + 2, none⟩ (.int .i64 (lf - 1))) (.slice (some ⟨gg, o + 3, none⟩) r.length (c - 1)) r) := by
        have h9 := HS.out.2.2
        rw [if_neg e1] at h9
        exact h9
      go_enter Try.func38, Try.ntmps38
      go_wp2_with fail
      refine bodyPost_ret (run_ends (p := .int .i64 cm) (q := .bool true) rfl rfl) rfl ?_
      exact ⟨_, .slice (some ⟨gg, o + 3, none⟩) r.length (c - 1), HS.out.2.1, ⟨_, HS.out.1⟩, rfl, by rw [e2.out]; exact HT.out, by rw [e.out], .inl ⟨e.out, rfl⟩⟩

set_option maxRecDepth 20000 in
set_option maxHeartbeats 4000000 in
theorem wk_any (W : World) (l : List Pa) (tk : List Int) (pv tv : Value) (gp gt part cm : Nat) (hp : W.cell? ⟨gp, 0, none⟩ = some pv) (ht : W.cell? ⟨gt, 0, none⟩ = some tv) (hv : RowSl Pa.vals W l pv) (htv : RowSl nuV W tk tv) (hok : PsOk l) (hpt : part < l.length) (hcm : cm ≤ 100000) (hlt : tk.length ≤ 9223372036854775807) (htk : ∀ z ∈ tk, 0 ≤ z) : Calls Try.prog 32 #[.int .i64 (part : Int), .int .i64 (cm : Int), .pointer (some ⟨gt, 0, none⟩), .pointer (some ⟨gp, 0, none⟩)] W fun r w' => r = .returned (.int .i64 (wkF l tk part cm)) ∧ Below W.heap.size W w' := by
  obtain ⟨ad, c, rfl, -, hcap, hrow⟩ := hv
  rcases hrow with h | ⟨b, o, rfl, hrow⟩
  · rw [h] at hpt; simp at hpt
  obtain ⟨x, hx⟩ : ∃ x, l[part]? = some x := ⟨_, List.getElem?_eq_getElem hpt⟩
  obtain ⟨y0, y1, y2, y3, y4, y5, y6⟩ := pa7_at hrow hx
  have hxd : l.getD part paZ = x := getD_some hx
  have hpo := hok.at_ part x hx
  have k1 := hpo.c
  have k2 := hpo.cd
  have k3 := hpo.dt
  have k4 := hpo.t
  obtain ⟨wz, hwz⟩ : ∃ wz, wkF l tk part cm = wz := ⟨_, rfl⟩
  have HWZ : Hid (wkF l tk part cm = wz) := hwz
  have HX : Hid (l.getD part paZ = x) := hxd
  have h8 := hok.most
  rw [hwz]
  obtain ⟨at', ct, rfl, hnil, hct, htr⟩ := htv
  have lp := World.block_lt_of_cell? _ _ hp
  have lt := World.block_lt_of_cell? _ _ ht
  have lb := World.block_lt_of_cell? _ _ y3
  have hpi : (part : Int) < (l.length : Int) := by omega
  obtain ⟨xco, xfr, xse, xc, xt, xd, xp⟩ := x
  dsimp only at *
  clear hrow y0 y1 y2 y4 y5 y6 hx hok hpo hwz hxd
  by_cases h0 : tk.length = 0
  · have hb : ((tk.length : Int) == 0) = true := by simp [h0]
    have hz : wz = xc := by
      rw [← HWZ.out]
      unfold wkF
      rw [if_pos h0, HX.out]
    subst hz
    clear HWZ HX htr hnil
    go_enter Try.func32, Try.ntmps32
    rw [h0] at ht
    go_wp2_with fail
    go_ret
    exact ⟨rfl, Below.refl _ _⟩
  rcases htr with h | ⟨bt, ot, rfl, htr⟩
  · rw [h] at h0; simp at h0
  have hb : ((tk.length : Int) == 0) = false := by simpa using h0
  obtain ⟨ix, hix⟩ : ∃ ix, (cm * l.length + part) % tk.length = ix := ⟨_, rfl⟩
  have hixl : ix < tk.length := by rw [← hix]; exact Nat.mod_lt _ (by omega)
  obtain ⟨tz, htz⟩ : ∃ tz, tk[ix]? = some tz := ⟨_, List.getElem?_eq_getElem hixl⟩
  have z0 := nu_at htr htz
  have htz0 := htk tz (List.mem_of_getElem? htz)
  have hz : wz = 1 + tz % xc := by
    rw [← HWZ.out]
    unfold wkF
    rw [if_neg h0, HX.out, hix, getD_some htz]
  have hn8 : cm * l.length ≤ 100000 * 8 := Nat.mul_le_mul hcm h8
  have e1 : IntKind.i64.wrap ((cm : Int) * (l.length : Int)) = ((cm * l.length : Nat) : Int) := by
    rw [← Int.natCast_mul, IntKind.wrap_i64]; omega
  have e2 : IntKind.i64.wrap (((cm * l.length : Nat) : Int) + (part : Int)) = ((cm * l.length + part : Nat) : Int) := by
    rw [IntKind.wrap_i64]; omega
  have e3 : ((cm * l.length + part : Nat) : Int).tmod (tk.length : Int) = (ix : Int) := by
    rw [Int.tmod_eq_emod_of_nonneg (by omega), ← hix]; rfl
  have e4 : IntKind.i64.wrap (ix : Int) = (ix : Int) := by rw [IntKind.wrap_i64]; omega
  have hm0 := Int.emod_nonneg tz (show xc ≠ 0 by omega)
  have hm1 := Int.emod_lt_of_pos tz (show 0 < xc by omega)
  have e5 : tz.tmod xc = tz % xc := Int.tmod_eq_emod_of_nonneg htz0
  have e6 : IntKind.i64.wrap (tz % xc) = tz % xc := by rw [IntKind.wrap_i64]; omega
  have e7 : IntKind.i64.wrap (1 + tz % xc) = 1 + tz % xc := by rw [IntKind.wrap_i64]; omega
  have hix2 : (ix : Int) < (tk.length : Int) := by omega
  have hc0 : ¬ xc = 0 := by omega
  have ht0 : ¬ (tk.length : Int) = 0 := by omega
  have lbt := World.block_lt_of_cell? _ _ z0
  subst hz
  have hp0 := hp
  clear HWZ HX htr hnil htz hix hp
  generalize tz % xc = tm at *
  generalize cm * l.length + part = q2 at *
  generalize cm * l.length = q1 at *
  go_enter Try.func32, Try.ntmps32
  go_upto_region 3 with fail
  refine wp_region_noPanic ?_
  refine wp_region_held_drew (S := fun w' => w'.cell? ⟨gt, 0, none⟩ = some (.slice (some ⟨bt, ot, none⟩) tk.length ct) ∧ w'.cell? ⟨gp, 0, none⟩ = some (.slice (some ⟨b, o, none⟩) l.length c) ∧ w'.cell? ⟨bt, ot + ix, none⟩ = some (.int .i64 tz) ∧ w'.cell? ⟨b, o + part * 7 + 3, none⟩ = some (.int .i64 xc)) (by kernel_rfl) ⟨ht, hp0, z0, y3⟩ (fun hHeld => ?_)
  refine take_at (i := 0) (n := 15) (v := ?_) rfl rfl (by kernel_rfl) (by kernel_rfl) (by kernel_rfl) (fun _ _ _ h => h) (Or.inl ⟨by rfl, ?_⟩) (by assumption) ?_
  rotate_left 1
  · intro wz hSw
    obtain ⟨s0, s1, s2, s3⟩ := hSw
    first | (go_simp; done) | (go_simp; with_reducible rfl)
  simp only [List.set_cons_zero, List.set_cons_succ]
  refine take_at (i := 1) (n := 16) (v := ?_) rfl rfl (by kernel_rfl) (by kernel_rfl) (by kernel_rfl) (fun _ _ _ h => h) (Or.inl ⟨by rfl, ?_⟩) (by assumption) ?_
  rotate_left 1
  · intro wz hSw
    obtain ⟨s0, s1, s2, s3⟩ := hSw
    first | (go_simp; done) | (go_simp; with_reducible rfl)
  simp only [List.set_cons_zero, List.set_cons_succ]
  refine take_at (i := 2) (n := 17) (v := ?_) rfl rfl (by kernel_rfl) (by kernel_rfl) (by kernel_rfl) (fun _ _ _ h => h) (Or.inl ⟨by rfl, ?_⟩) (by assumption) ?_
  rotate_left 1
  · intro wz hSw
    obtain ⟨s0, s1, s2, s3⟩ := hSw
    first | (go_simp; done) | (go_simp; with_reducible rfl)
  simp only [List.set_cons_zero, List.set_cons_succ]
  refine take_at (i := 3) (n := 18) (v := ?_) rfl rfl (by kernel_rfl) (by kernel_rfl) (by kernel_rfl) (fun _ _ _ h => h) (Or.inl ⟨by rfl, ?_⟩) (by assumption) ?_
  rotate_left 1
  · intro wz hSw
    obtain ⟨s0, s1, s2, s3⟩ := hSw
    first | (go_simp; done) | (go_simp; with_reducible rfl)
  simp only [List.set_cons_zero, List.set_cons_succ]
  refine take_at (i := 4) (n := 19) (v := ?_) rfl rfl (by kernel_rfl) (by kernel_rfl) (by kernel_rfl) (fun _ _ _ h => h) (Or.inl ⟨by rfl, ?_⟩) (by assumption) ?_
  rotate_left 1
  · intro wz hSw
    obtain ⟨s0, s1, s2, s3⟩ := hSw
    first | (go_simp; done) | (go_simp; with_reducible rfl)
  simp only [List.set_cons_zero, List.set_cons_succ]
  refine take_at (i := 5) (n := 20) (v := ?_) rfl rfl (by kernel_rfl) (by kernel_rfl) (by kernel_rfl) (fun _ _ _ h => h) (Or.inl ⟨by rfl, ?_⟩) (by assumption) ?_
  rotate_left 1
  · intro wz hSw
    obtain ⟨s0, s1, s2, s3⟩ := hSw
    first | (go_simp; done) | (go_simp; with_reducible rfl)
  simp only [List.set_cons_zero, List.set_cons_succ]
  refine take_at (i := 6) (n := 21) (v := ?_) rfl rfl (by kernel_rfl) (by kernel_rfl) (by kernel_rfl) (fun _ _ _ h => h) (Or.inl ⟨by rfl, ?_⟩) (by assumption) ?_
  rotate_left 1
  · intro wz hSw
    obtain ⟨s0, s1, s2, s3⟩ := hSw
    first | (go_simp; done) | (go_simp; with_reducible rfl)
  simp only [List.set_cons_zero, List.set_cons_succ]
  refine take_at (i := 7) (n := 22) (v := ?_) rfl rfl (by kernel_rfl) (by kernel_rfl) (by kernel_rfl) (fun _ _ _ h => h) (Or.inl ⟨by rfl, ?_⟩) (by assumption) ?_
  rotate_left 1
  · intro wz hSw
    obtain ⟨s0, s1, s2, s3⟩ := hSw
    first | (go_simp; done) | (go_simp; with_reducible rfl)
  simp only [List.set_cons_zero, List.set_cons_succ]
  refine take_at (i := 8) (n := 23) (v := ?_) rfl rfl (by kernel_rfl) (by kernel_rfl) (by kernel_rfl) (fun _ _ _ h => h) (Or.inl ⟨by rfl, ?_⟩) (by assumption) ?_
  rotate_left 1
  · intro wz hSw
    obtain ⟨s0, s1, s2, s3⟩ := hSw
    first | (go_simp; done) | (go_simp; with_reducible rfl)
  simp only [List.set_cons_zero, List.set_cons_succ]
  refine take_at (i := 9) (n := 24) (v := ?_) rfl rfl (by kernel_rfl) (by kernel_rfl) (by kernel_rfl) (fun _ _ _ h => h) (Or.inl ⟨by rfl, ?_⟩) (by assumption) ?_
  rotate_left 1
  · intro wz hSw
    obtain ⟨s0, s1, s2, s3⟩ := hSw
    first | (go_simp; done) | (go_simp; with_reducible rfl)
  simp only [List.set_cons_zero, List.set_cons_succ]
  refine take_at (i := 10) (n := 25) (v := ?_) rfl rfl (by kernel_rfl) (by kernel_rfl) (by kernel_rfl) (fun _ _ _ h => h) (Or.inl ⟨by rfl, ?_⟩) (by assumption) ?_
  rotate_left 1
  · intro wz hSw
    obtain ⟨s0, s1, s2, s3⟩ := hSw
    first | (go_simp; done) | (go_simp; with_reducible rfl)
  simp only [List.set_cons_zero, List.set_cons_succ]
  refine take_at (i := 11) (n := 26) (v := ?_) rfl rfl (by kernel_rfl) (by kernel_rfl) (by kernel_rfl) (fun _ _ _ h => h) (Or.inl ⟨by rfl, ?_⟩) (by assumption) ?_
  rotate_left 1
  · intro wz hSw
    obtain ⟨s0, s1, s2, s3⟩ := hSw
    first | (go_simp; done) | (go_simp; with_reducible rfl)
  simp only [List.set_cons_zero, List.set_cons_succ]
  refine take_at (i := 12) (n := 27) (v := ?_) rfl rfl (by kernel_rfl) (by kernel_rfl) (by kernel_rfl) (fun _ _ _ h => h) (Or.inl ⟨by rfl, ?_⟩) (by assumption) ?_
  rotate_left 1
  · intro wz hSw
    obtain ⟨s0, s1, s2, s3⟩ := hSw
    first | (go_simp; done) | (go_simp; with_reducible rfl)
  simp only [List.set_cons_zero, List.set_cons_succ]
  refine take_at (i := 13) (n := 28) (v := ?_) rfl rfl (by kernel_rfl) (by kernel_rfl) (by kernel_rfl) (fun _ _ _ h => h) (Or.inl ⟨by rfl, ?_⟩) (by assumption) ?_
  rotate_left 1
  · intro wz hSw
    obtain ⟨s0, s1, s2, s3⟩ := hSw
    first | (go_simp; done) | (go_simp; with_reducible rfl)
  simp only [List.set_cons_zero, List.set_cons_succ]
  refine take_at (i := 14) (n := 29) (v := ?_) rfl rfl (by kernel_rfl) (by kernel_rfl) (by kernel_rfl) (fun _ _ _ h => h) (Or.inl ⟨by rfl, ?_⟩) (by assumption) ?_
  rotate_left 1
  · intro wz hSw
    obtain ⟨s0, s1, s2, s3⟩ := hSw
    first | (go_simp; done) | (go_simp; with_reducible rfl)
  simp only [List.set_cons_zero, List.set_cons_succ]
  refine take_at (i := 15) (n := 30) (v := ?_) rfl rfl (by kernel_rfl) (by kernel_rfl) (by kernel_rfl) (fun _ _ _ h => h) (Or.inl ⟨by rfl, ?_⟩) (by assumption) ?_
  rotate_left 1
  · intro wz hSw
    obtain ⟨s0, s1, s2, s3⟩ := hSw
    first | (go_simp; done) | (go_simp; with_reducible rfl)
  simp only [List.set_cons_zero, List.set_cons_succ]
  refine take_at (i := 16) (n := 31) (v := ?_) rfl rfl (by kernel_rfl) (by kernel_rfl) (by kernel_rfl) (fun _ _ _ h => h) (Or.inl ⟨by rfl, ?_⟩) (by assumption) ?_
  rotate_left 1
  · intro wz hSw
    obtain ⟨s0, s1, s2, s3⟩ := hSw
    first | (go_simp; done) | (go_simp; with_reducible rfl)
  simp only [List.set_cons_zero, List.set_cons_succ]
  refine take_at (i := 17) (n := 32) (v := ?_) rfl rfl (by kernel_rfl) (by kernel_rfl) (by kernel_rfl) (fun _ _ _ h => h) (Or.inl ⟨by rfl, ?_⟩) (by assumption) ?_
  rotate_left 1
  · intro wz hSw
    obtain ⟨s0, s1, s2, s3⟩ := hSw
    first | (go_simp; done) | (go_simp; with_reducible rfl)
  simp only [List.set_cons_zero, List.set_cons_succ]
  refine take_at (i := 18) (n := 33) (v := ?_) rfl rfl (by kernel_rfl) (by kernel_rfl) (by kernel_rfl) (fun _ _ _ h => h) (Or.inl ⟨by rfl, ?_⟩) (by assumption) ?_
  rotate_left 1
  · intro wz hSw
    obtain ⟨s0, s1, s2, s3⟩ := hSw
    first | (go_simp; done) | (go_simp; with_reducible rfl)
  simp only [List.set_cons_zero, List.set_cons_succ]
  refine take_at (i := 19) (n := 6) (v := ?_) rfl rfl (by kernel_rfl) (by kernel_rfl) (by kernel_rfl) (fun _ _ _ h => h) (Or.inl ⟨by rfl, ?_⟩) (by assumption) ?_
  rotate_left 1
  · intro wz hSw
    obtain ⟨s0, s1, s2, s3⟩ := hSw
    first | (go_simp; done) | (go_simp; with_reducible rfl)
  simp only [List.set_cons_zero, List.set_cons_succ]
  refine wpAnyH_done (by kernel_rfl) ?_ _
  refine NoPanic.normal ?_
  clear hHeld
  go_wp2_with fail
  go_ret
  exact ⟨rfl, (Below.refl _ _).drew⟩
end Go.Proofs.Ytccoobcggbbciam
namespace Go.Proofs.Ytccoobcggbbciam
open Go.ChangeShapes Go.WideShapes Go.ChangeAt Go.RowKit

section
variable {P : Program} {ops : Array Oper} {Q : Exit → Act → World → Prop} {md : Region.Mode} {S : World → Prop} {L : Nat}

/-- What has come up has behind it what it waits for. -/
def shutB (md : Region.Mode) (ops : Array Oper) (l : Array Bool) : Bool :=
  (List.range ops.size).all fun k => !l.getD k false || match ops[k]? with
    | some o => o.after.all fun e => !Region.binds md e || l.getD e.on false
    | none => true
def ShutP (md : Region.Mode) (ops : Array Oper) (l : Array Bool) : Prop :=
  ∀ k o, ops[k]? = some o → l.getD k false = true → ∀ e ∈ o.after, Region.binds md e = true → l.getD e.on false = true
theorem shut_spec {l : Array Bool} (h : shutB md ops l = true) : ShutP md ops l := fun k o hk hl e he hb => by
  simp only [shutB, List.all_eq_true, List.mem_range] at h
  have h1 := h k (Array.getElem?_eq_some_iff.1 hk).1
  simp only [hk, hl, Bool.not_true, Bool.false_or] at h1
  have h2 := Array.all_eq_true_iff_forall_mem.1 h1 e he
  simpa [hb] using h2
theorem shut_set {l : Array Bool} {j : Nat} (h : ShutP md ops l) (hj : j ∈ Region.ready md ops l) : ShutP md ops (l.setIfInBounds j true) := fun k o hk hl e he hb => by
  by_cases hkj : j = k
  · subst hkj
    obtain ⟨-, o', ho', hall⟩ := mem_ready.1 hj
    rw [hk] at ho'; cases ho'
    exact getD_set_true (hall e he hb)
  · rw [getD_set_ne false hkj] at hl
    exact getD_set_true (h k o hk hl e he hb)

/-- All wait, one for the other, to be followed by number L, the last one. -/
def lastB (md : Region.Mode) (ops : Array Oper) (L : Nat) : Bool :=
  L + 1 == ops.size && (List.range L).all fun i => (List.range (L + 1)).any fun j => decide (i < j) && match ops[j]? with
    | some o => o.after.any fun e => Region.binds md e && e.on == i
    | none => false
theorem last_spec {l : Array Bool} (hL : lastB md ops L = true) (h : ShutP md ops l) (hr : L ∈ Region.ready md ops l) : ∀ (d i : Nat), i < L → L - i ≤ d → l.getD i false = true
  | 0, i, hi, hd => by omega
  | d + 1, i, hi, hd => by
    simp only [lastB, Bool.and_eq_true, List.all_eq_true, List.mem_range, List.any_eq_true, decide_eq_true_eq] at hL
    obtain ⟨j, hj, hij, hm⟩ := hL.2 i hi
    cases ho : ops[j]? with
    | none => simp [ho] at hm
    | some o =>
      simp only [ho] at hm
      obtain ⟨e, he, hb⟩ := Array.any_eq_true'.1 hm
      simp only [Bool.and_eq_true, beq_iff_eq] at hb
      rw [← hb.2]
      by_cases hjL : j = L
      · subst hjL
        obtain ⟨-, o', ho', hall⟩ := mem_ready.1 hr
        rw [ho] at ho'; cases ho'
        exact hall e he hb.1
      · exact h j o ho (last_spec (by simp only [lastB, Bool.and_eq_true, List.all_eq_true, List.mem_range, List.any_eq_true, decide_eq_true_eq]; exact hL) h hr d j (by omega) (by omega)) e he hb.1

/-- Whatever order is picked, and S holds behind each operation but the last. -/
def wpAnyL (P : Program) (md : Region.Mode) (ops : Array Oper) (Q : Exit → Act → World → Prop) (S : World → Prop) (L : Nat) : Nat → Array Bool → Act → World → Prop
  | 0, l, a, w => Region.ready md ops l = [] ∧ Q .normal a w
  | f + 1, l, a, w => (Region.ready md ops l = [] → Q .normal a w) ∧ ∀ i ∈ Region.ready md ops l, wpOp P ops Q i (fun a' w' => (i ≠ L → S w') ∧ wpAnyL P md ops Q S L f (l.setIfInBounds i true) a' w') a w

theorem wpAnyL.any : ∀ (f : Nat) (l : Array Bool) (a : Act) (w : World), wpAnyL P md ops Q S L f l a w → wpAny P md ops Q f l a w
  | 0, _, _, _, h => h
  | f + 1, _, _, _, h => ⟨h.1, fun i hi => wpOp_mono (fun a' w' h' => wpAnyL.any f _ a' w' h'.2) (h.2 i hi)⟩

theorem wpAnyL_first {i : Nat} {oi : Oper} {v : Value} (hi : ops[i]? = some oi) (hsel : ∀ (j : Nat) (o : Oper) cs b, ops[j]? = some o → o.op ≠ .select cs b)
    (hQ : ∀ c a w, Q (.panic c) (a.put oi.dst v) w → Q (.panic c) a w) (hL : lastB md ops L = true) (hiL : i < L) :
    ∀ (f : Nat) (l : Array Bool) (a : Act) (w : World), ShutP md ops l →
      (∀ j oj, ops[j]? = some oj → j ≠ i → l.getD j true = false → (∀ e ∈ oj.after, Region.binds md e = true → e.on ≠ i) → oi.apart ops oj = true) →
      i ∈ Region.ready md ops l → YieldsIf P ops S oi v a → S w →
      wpAnyL P md ops Q S L f (l.setIfInBounds i true) (a.put oi.dst v) w → wpAnyL P md ops Q S L (f + 1) l a w
  | f, l, a, w => fun hsh hfree hr hy hS H => by
    refine ⟨fun h => (by rw [h] at hr; cases hr), fun j hj => ?_⟩
    by_cases hji : j = i
    · subst hji; exact hy.wpOp hi hS ⟨fun _ => hS, H⟩
    have h0 := (mem_ready.1 hr).1
    have hjL : j ≠ L := fun e => by
      subst e
      have h1 := last_spec hL hsh hj (j - i) i hiL (Nat.le_refl _)
      rcases Nat.lt_or_ge i l.size with h' | h'
      · simp [h'] at h0 h1; rw [h0] at h1; cases h1
      · simp [Array.getElem?_eq_none h'] at h1
    cases f with
    | zero =>
      have := ready_mono hj hji
      rw [H.1] at this
      cases this
    | succ f =>
      obtain ⟨hjun, oj, hoj, hall⟩ := mem_ready.1 hj
      have hnot : ∀ e ∈ oj.after, Region.binds md e = true → e.on ≠ i := fun e he hb heq => by
        have h1 := hall e he hb
        rw [heq] at h1
        rcases Nat.lt_or_ge i l.size with h' | h'
        · simp [h'] at h0 h1; rw [h0] at h1; cases h1
        · simp [Array.getElem?_eq_none h'] at h1
      refine wpOp_mono (fun a' w' h3 => ?_) (wpOp_putIf hoj (hfree j oj hoj hji hjun hnot) (fun cs b => hsel i oi cs b hi) (fun cs b => hsel j oj cs b hoj) hQ hy (H.2 j (ready_mono hj hji)))
      refine ⟨h3.2.1, wpAnyL_first hi hsel hQ hL hiL f (l.setIfInBounds j true) a' w' (shut_set hsh hj) (fun k ok hk hki hun hno => ?_) (ready_mono hr (Ne.symm hji)) h3.1 (h3.2.1 hjL) (by rw [Array.setIfInBounds_comm _ _ hji]; exact h3.2.2)⟩
      refine hfree k ok hk hki ?_ hno
      by_cases hjk : j = k
      · subst hjk; exact hjun
      · rw [getD_set_ne true hjk] at hun; exact hun

/-- One that is taken first, its slot written out. -/
theorem takeL_at {i n : Nat} {oi : Oper} {v : Value} {f : Nat} {l : Array Bool} {xs : List Value} {ds : List Deferred} {w : World}
    (hi : ops[i]? = some oi) (hd : oi.dst = some n) (hs : Region.noSelect ops = true) (hL : lastB md ops L = true) (hiL : i < L) (hsh : shutB md ops l = true) (hf : Region.free md ops l i = true) (hr : (Region.ready md ops l).contains i = true)
    (hQ : ∀ c a w, Q (.panic c) (a.put oi.dst v) w → Q (.panic c) a w) (hy : YieldsIf P ops S oi v ⟨xs.toArray, ds⟩) (hS : S w)
    (h : wpAnyL P md ops Q S L f (l.setIfInBounds i true) ⟨(xs.set n v).toArray, ds⟩ w) : wpAnyL P md ops Q S L (f + 1) l ⟨xs.toArray, ds⟩ w := by
  refine wpAnyL_first hi (Region.noSelect_spec hs) hQ hL hiL f l _ w (shut_spec hsh) (Region.free_spec hi hf) (by simpa using hr) hy hS ?_
  have e : Act.put ⟨xs.toArray, ds⟩ oi.dst v = ⟨(xs.set n v).toArray, ds⟩ := by rw [hd]; simp [Act.put]
  rw [e]
  exact h

/-- One that is alone. -/
theorem wpAnyL_one {i : Nat} {o : Oper} {f : Nat} {l : Array Bool} {a : Act} {w : World} (hr : Region.ready md ops l = [i]) (ho : ops[i]? = some o)
    (h : ∀ K' : Act → World → Prop, Shut (∀ a w, (i ≠ L → S w) → wpAnyL P md ops Q S L f (l.setIfInBounds i true) a w → K' a w) → if Region.wanted o (yielded ops a.tmps) = true then Oper.wp P o a w K' Q else K' (a.put o.dst undef) w) : wpAnyL P md ops Q S L (f + 1) l a w :=
  ⟨(fun h0 => absurd (hr.symm.trans h0) (by simp)), fun j hj => by
    rw [hr, List.mem_singleton] at hj
    subst hj
    exact wpOp_step ho (fun K' hK => h K' (fun a w hS hW => hK a w ⟨hS, hW⟩))⟩

theorem wpAnyL_done {l : Array Bool} {a : Act} {w : World} (hr : Region.ready md ops l = []) (h : Q .normal a w) : ∀ f, wpAnyL P md ops Q S L f l a w
  | 0 => ⟨hr, h⟩
  | _ + 1 => ⟨fun _ => h, by rw [hr]; simp⟩

theorem wp_region_last {id : Nat} {a : Act} {w : World} (hm : P.follows .mixedOrders = true)
    (h : wpAnyL P .any ops Q S L ops.size (Array.replicate ops.size false) a w.drew) : (Code.region id ops true).wp P Q a w :=
  wp_region_any hm (h.any _ _ _ _)
end
end Go.Proofs.Ytccoobcggbbciam
