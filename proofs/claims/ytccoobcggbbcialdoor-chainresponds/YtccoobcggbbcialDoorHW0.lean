import Derived.Test.YtccoobcggbbcialDoorHV3
import Derived.Test.YtccoobcggbbcialDoorHO0
namespace Go.Proofs.YtccoobcggbbcialDoor
open Go.ChangeShapes Go.WideShapes Go.ChangeAt Go.RowKit

theorem run_ends {w : World} {p q : Value} {a : Act} (h2 : a.tmps[2]?.getD undef = p) (h3 : a.tmps[3]?.getD undef = q) : (results Tryd.f125 a.tmps).run Tryd.prog w = .ok (.tuple #[p, q]) w := by
  simp [results, Tryd.results125, go_sem, h2, h3]

def RunPost (W : World) (g i : Nat) (v : Value) (p : Pc) (r : List Pc) (rr : Ending) (w' : World) : Prop := ∃ W1 v', W.grownBy W1 v.ownBlock ∧ (∃ z, LnR W1 v ({ p with lf := z } :: r)) ∧ v'.ownBlock = v.ownBlock ∧ LnR W1 v' (runQ (p :: r)) ∧ rr = .returned (.tuple #[.int .i64 p.cm, .bool (runD (p :: r))]) ∧ ((runD (p :: r) = true ∧ w' = W1.setCell ⟨g, i, none⟩ v') ∨ (runD (p :: r) = false ∧ v' = v ∧ w' = W1))

set_option maxRecDepth 20000 in
set_option maxHeartbeats 4000000 in
theorem run_any (W : World) (g i : Nat) (v : Value) (p : Pc) (r : List Pc) (hc : W.cell? ⟨g, i, none⟩ = some v) (hf : W.frozen? ⟨g, i, none⟩ = false) (hl : LnR W v (p :: r)) (hne : v.ownBlock ≠ some g) (h1 : 1 ≤ p.lf) (h2 : p.lf ≤ 10000) : Calls Tryd.prog 125 #[.pointer (some ⟨g, i, none⟩)] W (RunPost W g i v p r) := by
  obtain ⟨gg, o, c, rfl, hcap, c0, c1, c2, cf, lg, hT, hS⟩ := hl.head
  obtain ⟨hS1, hS2, hS3⟩ := hS (p.lf - 1)
  have hgg : gg ≠ g := fun e => hne (by rw [e]; rfl)
  have l2 := World.block_lt_of_cell? _ _ hc
  have hw : IntKind.i64.wrap (p.lf - 1) = p.lf - 1 := by rw [IntKind.wrap_i64]; omega
  have HS : Hid (LnR (W.setCell ⟨gg, o + 2, none⟩ (.int .i64 (p.lf - 1))) (.slice (some ⟨gg, o, none⟩) (r.length + 1) c) ({ p with lf := p.lf - 1 } :: r) ∧ W.grownBy (W.setCell ⟨gg, o + 2, none⟩ (.int .i64 (p.lf - 1))) (some gg) ∧ LnR (W.setCell ⟨gg, o + 2, none⟩ (.int .i64 (p.lf - 1))) (.slice (if c = 1 then some ⟨gg, o, none⟩ else some ⟨gg, o + 3, none⟩) r.length (c - 1)) r) := ⟨hS1, hS2, hS3⟩
  clear hS hS1 hS2 hS3 hT hl hne
  obtain ⟨cm, si, lf⟩ := p
  dsimp only at *
  have hr0 : (0 : Int) < ((r.length + 1 : Nat) : Int) := by omega
  have hr1 : (1 : Int) ≤ ((r.length + 1 : Nat) : Int) := by omega
  have hr4 : (1 : Int) ≤ (r.length : Int) + 1 := by omega
  have hr5 : (0 : Int) < (r.length : Int) + 1 := by omega
  have hr2 : 1 ≤ r.length + 1 := by omega
  have hr3 : 1 ≤ c := by omega
  by_cases hlf : 0 < lf - 1
  · have e : Hid (runD (⟨cm, si, lf⟩ :: r) = false) := by
      show (!decide (0 < lf - 1)) = false
      rw [decide_eq_true hlf]; rfl
    have e2 : Hid (runQ (⟨cm, si, lf⟩ :: r) = ⟨cm, si, lf - 1⟩ :: r) := if_pos hlf
    go_enter Tryd.func125, Tryd.ntmps125
    go_wp2_with fail
    refine bodyPost_ret (run_ends (p := .int .i64 cm) (q := .bool false) rfl rfl) rfl ?_
    exact ⟨_, _, HS.out.2.1, ⟨_, HS.out.1⟩, rfl, by rw [e2.out]; exact HS.out.1, by rw [e.out], .inr ⟨e.out, rfl, rfl⟩⟩
  · have e : Hid (runD (⟨cm, si, lf⟩ :: r) = true) := by
      show (!decide (0 < lf - 1)) = true
      rw [decide_eq_false hlf]; rfl
    have e2 : Hid (runQ (⟨cm, si, lf⟩ :: r) = r) := if_neg hlf
    by_cases e1 : c = 1
    · subst e1
      have hrn : r = [] := List.eq_nil_of_length_eq_zero (by omega)
      subst hrn
      clear hr0 hr1 hr4 hr5 hr2 hr3 hcap
      have HT : Hid (LnR (W.setCell ⟨gg, o + 2, none⟩ (.int .i64 (lf - 1))) (.slice (some ⟨gg, o, none⟩) 0 0) []) := by
        have h9 := HS.out.2.2
        rw [if_pos rfl] at h9
        exact h9
      go_enter Tryd.func125, Tryd.ntmps125
      go_wp2_with fail
      refine bodyPost_ret (run_ends (p := .int .i64 cm) (q := .bool true) rfl rfl) rfl ?_
      exact ⟨_, .slice (some ⟨gg, o, none⟩) 0 0, HS.out.2.1, ⟨_, HS.out.1⟩, rfl, by rw [e2.out]; exact HT.out, by rw [e.out], .inl ⟨e.out, rfl⟩⟩
    · have HT : Hid (LnR (W.setCell ⟨gg, o + 2, none⟩ (.int .i64 (lf - 1))) (.slice (some ⟨gg, o + 3, none⟩) r.length (c - 1)) r) := by
        have h9 := HS.out.2.2
        rw [if_neg e1] at h9
        exact h9
      go_enter Tryd.func125, Tryd.ntmps125
      go_wp2_with fail
      refine bodyPost_ret (run_ends (p := .int .i64 cm) (q := .bool true) rfl rfl) rfl ?_
      exact ⟨_, .slice (some ⟨gg, o + 3, none⟩) r.length (c - 1), HS.out.2.1, ⟨_, HS.out.1⟩, rfl, by rw [e2.out]; exact HT.out, by rw [e.out], .inl ⟨e.out, rfl⟩⟩

set_option maxRecDepth 20000 in
set_option maxHeartbeats 4000000 in
theorem wk_any (W : World) (l : List Pa) (tk : List Int) (pv tv : Value) (gp gt part cm : Nat) (hp : W.cell? ⟨gp, 0, none⟩ = some pv) (ht : W.cell? ⟨gt, 0, none⟩ = some tv) (hv : RowSl Pa.vals W l pv) (htv : RowSl nuV W tk tv) (hok : PsOk l) (hpt : part < l.length) (hcm : cm ≤ 100000) (hlt : tk.length ≤ 1000000) (htk : ∀ z ∈ tk, 0 ≤ z) : Calls Tryd.prog 120 #[.int .i64 (part : Int), .int .i64 (cm : Int), .pointer (some ⟨gt, 0, none⟩), .pointer (some ⟨gp, 0, none⟩)] W fun r w' => r = .returned (.int .i64 (wkF l tk part cm)) ∧ Below W.heap.size W w' := by
  obtain ⟨ad, c, rfl, -, hcap, hrow⟩ := hv
  rcases hrow with h | ⟨b, o, rfl, hrow⟩
  · rw [h] at hpt; simp at hpt
  obtain ⟨x, hx⟩ : ∃ x, l[part]? = some x := ⟨_, List.getElem?_eq_getElem hpt⟩
  obtain ⟨y0, y1, y2, y3, y4, y5, y6⟩ := pa7_at hrow hx
  have hxd : l.getD part paZ = x := getD_some hx
  have hpo := hok.at_ part x hx
  have k1 := hpo.c
  have k2 := hpo.cd
  have k3 := hpo.dt
  have k4 := hpo.t
  obtain ⟨wz, hwz⟩ : ∃ wz, wkF l tk part cm = wz := ⟨_, rfl⟩
  have HWZ : Hid (wkF l tk part cm = wz) := hwz
  have HX : Hid (l.getD part paZ = x) := hxd
  have h8 := hok.most
  rw [hwz]
  obtain ⟨at', ct, rfl, hnil, hct, htr⟩ := htv
  have lp := World.block_lt_of_cell? _ _ hp
  have lt := World.block_lt_of_cell? _ _ ht
  have lb := World.block_lt_of_cell? _ _ y3
  have hpi : (part : Int) < (l.length : Int) := by omega
  obtain ⟨xco, xfr, xse, xc, xt, xd, xp⟩ := x
  dsimp only at *
  clear hrow y0 y1 y2 y4 y5 y6 hx hok hpo hwz hxd
  by_cases h0 : tk.length = 0
  · have hb : ((tk.length : Int) == 0) = true := by simp [h0]
    have hz : wz = xc := by
      rw [← HWZ.out]
      unfold wkF
      rw [if_pos h0, HX.out]
    subst hz
    clear HWZ HX htr hnil
    go_enter Tryd.func120, Tryd.ntmps120
    rw [h0] at ht
    go_wp2_with fail
    go_ret
    exact ⟨rfl, Below.refl _ _⟩
  rcases htr with h | ⟨bt, ot, rfl, htr⟩
  · rw [h] at h0; simp at h0
  have hb : ((tk.length : Int) == 0) = false := by simpa using h0
  obtain ⟨ix, hix⟩ : ∃ ix, (cm * l.length + part) % tk.length = ix := ⟨_, rfl⟩
  have hixl : ix < tk.length := by rw [← hix]; exact Nat.mod_lt _ (by omega)
  obtain ⟨tz, htz⟩ : ∃ tz, tk[ix]? = some tz := ⟨_, List.getElem?_eq_getElem hixl⟩
  have z0 := nu_at htr htz
  have htz0 := htk tz (List.mem_of_getElem? htz)
  have hz : wz = 1 + tz % xc := by
    rw [← HWZ.out]
    unfold wkF
    rw [if_neg h0, HX.out, hix, getD_some htz]
  have hn8 : cm * l.length ≤ 100000 * 8 := Nat.mul_le_mul hcm h8
  have e1 : IntKind.i64.wrap ((cm : Int) * (l.length : Int)) = ((cm * l.length : Nat) : Int) := by
    rw [← Int.natCast_mul, IntKind.wrap_i64]; omega
  have e2 : IntKind.i64.wrap (((cm * l.length : Nat) : Int) + (part : Int)) = ((cm * l.length + part : Nat) : Int) := by
    rw [IntKind.wrap_i64]; omega
  have e3 : ((cm * l.length + part : Nat) : Int).tmod (tk.length : Int) = (ix : Int) := by
    rw [Int.tmod_eq_emod_of_nonneg (by omega), ← hix]; rfl
  have e4 : IntKind.i64.wrap (ix : Int) = (ix : Int) := by rw [IntKind.wrap_i64]; omega
  have hm0 := Int.emod_nonneg tz (show xc ≠ 0 by omega)
  have hm1 := Int.emod_lt_of_pos tz (show 0 < xc by omega)
  have e5 : tz.tmod xc = tz % xc := Int.tmod_eq_emod_of_nonneg htz0
  have e6 : IntKind.i64.wrap (tz % xc) = tz % xc := by rw [IntKind.wrap_i64]; omega
  have e7 : IntKind.i64.wrap (1 + tz % xc) = 1 + tz % xc := by rw [IntKind.wrap_i64]; omega
  have hix2 : (ix : Int) < (tk.length : Int) := by omega
  have hc0 : ¬ xc = 0 := by omega
  have ht0 : ¬ (tk.length : Int) = 0 := by omega
  have lbt := World.block_lt_of_cell? _ _ z0
  subst hz
  have hp0 := hp
  clear HWZ HX htr hnil htz hix hp
  generalize tz % xc = tm at *
  generalize cm * l.length + part = q2 at *
  generalize cm * l.length = q1 at *
  go_enter Tryd.func120, Tryd.ntmps120
  go_upto_region 3 with fail
  refine wp_region_noPanic ?_
  refine wp_region_held_drew (S := fun w' => w'.cell? ⟨gt, 0, none⟩ = some (.slice (some ⟨bt, ot, none⟩) tk.length ct) ∧ w'.cell? ⟨gp, 0, none⟩ = some (.slice (some ⟨b, o, none⟩) l.length c) ∧ w'.cell? ⟨bt, ot + ix, none⟩ = some (.int .i64 tz) ∧ w'.cell? ⟨b, o + part * 7 + 3, none⟩ = some (.int .i64 xc)) (by kernel_rfl) ⟨ht, hp0, z0, y3⟩ (fun hHeld => ?_)
  refine take_at (i := 0) (n := 15) (v := ?_) rfl rfl (by kernel_rfl) (by kernel_rfl) (by kernel_rfl) (fun _ _ _ h => h) (Or.inl ⟨by rfl, ?_⟩) (by assumption) ?_
  rotate_left 1
  · intro wz hSw
    obtain ⟨s0, s1, s2, s3⟩ := hSw
    first | (go_simp; done) | (go_simp; with_reducible rfl)
  simp only [List.set_cons_zero, List.set_cons_succ]
  refine take_at (i := 1) (n := 16) (v := ?_) rfl rfl (by kernel_rfl) (by kernel_rfl) (by kernel_rfl) (fun _ _ _ h => h) (Or.inl ⟨by rfl, ?_⟩) (by assumption) ?_
  rotate_left 1
  · intro wz hSw
    obtain ⟨s0, s1, s2, s3⟩ := hSw
    first | (go_simp; done) | (go_simp; with_reducible rfl)
  simp only [List.set_cons_zero, List.set_cons_succ]
  refine take_at (i := 2) (n := 17) (v := ?_) rfl rfl (by kernel_rfl) (by kernel_rfl) (by kernel_rfl) (fun _ _ _ h => h) (Or.inl ⟨by rfl, ?_⟩) (by assumption) ?_
  rotate_left 1
  · intro wz hSw
    obtain ⟨s0, s1, s2, s3⟩ := hSw
    first | (go_simp; done) | (go_simp; with_reducible rfl)
  simp only [List.set_cons_zero, List.set_cons_succ]
  refine take_at (i := 3) (n := 18) (v := ?_) rfl rfl (by kernel_rfl) (by kernel_rfl) (by kernel_rfl) (fun _ _ _ h => h) (Or.inl ⟨by rfl, ?_⟩) (by assumption) ?_
  rotate_left 1
  · intro wz hSw
    obtain ⟨s0, s1, s2, s3⟩ := hSw
    first | (go_simp; done) | (go_simp; with_reducible rfl)
  simp only [List.set_cons_zero, List.set_cons_succ]
  refine take_at (i := 4) (n := 19) (v := ?_) rfl rfl (by kernel_rfl) (by kernel_rfl) (by kernel_rfl) (fun _ _ _ h => h) (Or.inl ⟨by rfl, ?_⟩) (by assumption) ?_
  rotate_left 1
  · intro wz hSw
    obtain ⟨s0, s1, s2, s3⟩ := hSw
    first | (go_simp; done) | (go_simp; with_reducible rfl)
  simp only [List.set_cons_zero, List.set_cons_succ]
  refine take_at (i := 5) (n := 20) (v := ?_) rfl rfl (by kernel_rfl) (by kernel_rfl) (by kernel_rfl) (fun _ _ _ h => h) (Or.inl ⟨by rfl, ?_⟩) (by assumption) ?_
  rotate_left 1
  · intro wz hSw
    obtain ⟨s0, s1, s2, s3⟩ := hSw
    first | (go_simp; done) | (go_simp; with_reducible rfl)
  simp only [List.set_cons_zero, List.set_cons_succ]
  refine take_at (i := 6) (n := 21) (v := ?_) rfl rfl (by kernel_rfl) (by kernel_rfl) (by kernel_rfl) (fun _ _ _ h => h) (Or.inl ⟨by rfl, ?_⟩) (by assumption) ?_
  rotate_left 1
  · intro wz hSw
    obtain ⟨s0, s1, s2, s3⟩ := hSw
    first | (go_simp; done) | (go_simp; with_reducible rfl)
  simp only [List.set_cons_zero, List.set_cons_succ]
  refine take_at (i := 7) (n := 22) (v := ?_) rfl rfl (by kernel_rfl) (by kernel_rfl) (by kernel_rfl) (fun _ _ _ h => h) (Or.inl ⟨by rfl, ?_⟩) (by assumption) ?_
  rotate_left 1
  · intro wz hSw
    obtain ⟨s0, s1, s2, s3⟩ := hSw
    first | (go_simp; done) | (go_simp; with_reducible rfl)
  simp only [List.set_cons_zero, List.set_cons_succ]
  refine take_at (i := 8) (n := 23) (v := ?_) rfl rfl (by kernel_rfl) (by kernel_rfl) (by kernel_rfl) (fun _ _ _ h => h) (Or.inl ⟨by rfl, ?_⟩) (by assumption) ?_
  rotate_left 1
  · intro wz hSw
    obtain ⟨s0, s1, s2, s3⟩ := hSw
    first | (go_simp; done) | (go_simp; with_reducible rfl)
  simp only [List.set_cons_zero, List.set_cons_succ]
  refine take_at (i := 9) (n := 24) (v := ?_) rfl rfl (by kernel_rfl) (by kernel_rfl) (by kernel_rfl) (fun _ _ _ h => h) (Or.inl ⟨by rfl, ?_⟩) (by assumption) ?_
  rotate_left 1
  · intro wz hSw
    obtain ⟨s0, s1, s2, s3⟩ := hSw
    first | (go_simp; done) | (go_simp; with_reducible rfl)
  simp only [List.set_cons_zero, List.set_cons_succ]
  refine take_at (i := 10) (n := 25) (v := ?_) rfl rfl (by kernel_rfl) (by kernel_rfl) (by kernel_rfl) (fun _ _ _ h => h) (Or.inl ⟨by rfl, ?_⟩) (by assumption) ?_
  rotate_left 1
  · intro wz hSw
    obtain ⟨s0, s1, s2, s3⟩ := hSw
    first | (go_simp; done) | (go_simp; with_reducible rfl)
  simp only [List.set_cons_zero, List.set_cons_succ]
  refine take_at (i := 11) (n := 26) (v := ?_) rfl rfl (by kernel_rfl) (by kernel_rfl) (by kernel_rfl) (fun _ _ _ h => h) (Or.inl ⟨by rfl, ?_⟩) (by assumption) ?_
  rotate_left 1
  · intro wz hSw
    obtain ⟨s0, s1, s2, s3⟩ := hSw
    first | (go_simp; done) | (go_simp; with_reducible rfl)
  simp only [List.set_cons_zero, List.set_cons_succ]
  refine take_at (i := 12) (n := 27) (v := ?_) rfl rfl (by kernel_rfl) (by kernel_rfl) (by kernel_rfl) (fun _ _ _ h => h) (Or.inl ⟨by rfl, ?_⟩) (by assumption) ?_
  rotate_left 1
  · intro wz hSw
    obtain ⟨s0, s1, s2, s3⟩ := hSw
    first | (go_simp; done) | (go_simp; with_reducible rfl)
  simp only [List.set_cons_zero, List.set_cons_succ]
  refine take_at (i := 13) (n := 28) (v := ?_) rfl rfl (by kernel_rfl) (by kernel_rfl) (by kernel_rfl) (fun _ _ _ h => h) (Or.inl ⟨by rfl, ?_⟩) (by assumption) ?_
  rotate_left 1
  · intro wz hSw
    obtain ⟨s0, s1, s2, s3⟩ := hSw
    first | (go_simp; done) | (go_simp; with_reducible rfl)
  simp only [List.set_cons_zero, List.set_cons_succ]
  refine take_at (i := 14) (n := 29) (v := ?_) rfl rfl (by kernel_rfl) (by kernel_rfl) (by kernel_rfl) (fun _ _ _ h => h) (Or.inl ⟨by rfl, ?_⟩) (by assumption) ?_
  rotate_left 1
  · intro wz hSw
    obtain ⟨s0, s1, s2, s3⟩ := hSw
    first | (go_simp; done) | (go_simp; with_reducible rfl)
  simp only [List.set_cons_zero, List.set_cons_succ]
  refine take_at (i := 15) (n := 30) (v := ?_) rfl rfl (by kernel_rfl) (by kernel_rfl) (by kernel_rfl) (fun _ _ _ h => h) (Or.inl ⟨by rfl, ?_⟩) (by assumption) ?_
  rotate_left 1
  · intro wz hSw
    obtain ⟨s0, s1, s2, s3⟩ := hSw
    first | (go_simp; done) | (go_simp; with_reducible rfl)
  simp only [List.set_cons_zero, List.set_cons_succ]
  refine take_at (i := 16) (n := 31) (v := ?_) rfl rfl (by kernel_rfl) (by kernel_rfl) (by kernel_rfl) (fun _ _ _ h => h) (Or.inl ⟨by rfl, ?_⟩) (by assumption) ?_
  rotate_left 1
  · intro wz hSw
    obtain ⟨s0, s1, s2, s3⟩ := hSw
    first | (go_simp; done) | (go_simp; with_reducible rfl)
  simp only [List.set_cons_zero, List.set_cons_succ]
  refine take_at (i := 17) (n := 32) (v := ?_) rfl rfl (by kernel_rfl) (by kernel_rfl) (by kernel_rfl) (fun _ _ _ h => h) (Or.inl ⟨by rfl, ?_⟩) (by assumption) ?_
  rotate_left 1
  · intro wz hSw
    obtain ⟨s0, s1, s2, s3⟩ := hSw
    first | (go_simp; done) | (go_simp; with_reducible rfl)
  simp only [List.set_cons_zero, List.set_cons_succ]
  refine take_at (i := 18) (n := 33) (v := ?_) rfl rfl (by kernel_rfl) (by kernel_rfl) (by kernel_rfl) (fun _ _ _ h => h) (Or.inl ⟨by rfl, ?_⟩) (by assumption) ?_
  rotate_left 1
  · intro wz hSw
    obtain ⟨s0, s1, s2, s3⟩ := hSw
    first | (go_simp; done) | (go_simp; with_reducible rfl)
  simp only [List.set_cons_zero, List.set_cons_succ]
  refine take_at (i := 19) (n := 6) (v := ?_) rfl rfl (by kernel_rfl) (by kernel_rfl) (by kernel_rfl) (fun _ _ _ h => h) (Or.inl ⟨by rfl, ?_⟩) (by assumption) ?_
  rotate_left 1
  · intro wz hSw
    obtain ⟨s0, s1, s2, s3⟩ := hSw
    first | (go_simp; done) | (go_simp; with_reducible rfl)
  simp only [List.set_cons_zero, List.set_cons_succ]
  refine wpAnyH_done (by kernel_rfl) ?_ _
  refine NoPanic.normal ?_
  clear hHeld
  go_wp2_with fail
  go_ret
  exact ⟨rfl, (Below.refl _ _).drew⟩
end Go.Proofs.YtccoobcggbbcialDoor
