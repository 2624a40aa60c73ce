import Derived.Test.YtccoobcggbbciaiGreatDoorMN
namespace Go.Proofs.YtccoobcggbbciaiGreatDoor
open Go.ChangeShapes Go.WideShapes Go.ChangeAt Go.RowKit

/-- What the closures read, in whatever world in which the line was made. -/
structure EnvM (w1 : World) (l : List Jb) (set : List Cr) (cs : List Co) (tk : List Int) (jv sv qv tkv : Value) (sb cb ob tb : Nat) : Prop where
  of : OfW w1 set cs sv qv sb cb ob
  tb : w1.cell? ⟨tb, 0, none⟩ = some tkv
  tk : RowSl nuV w1 tk tkv
  jobs : RowSl Jb.vals w1 l jv

/-- The number that m.Turned becomes. -/
def turnI (T r xc y t1 : Int) : Int := if T = -1 ∧ r = xc ∧ xc < y then t1 else T

/-- What the closure leaves. -/
def RanPost (w0 : World) (B Kb Lf Rn Rd C : Nat) (l : List Jb) (rk cm0 : List Nat) (k : Nat) (left : List Int) (jv : Value) (rs pb rb eb n : Nat) (runs ends : List Int) (mb lb nb rw : Nat) (T' : Int) (ran : List Int) (hi : Nat → Bool) (r : Ending) (W' : World) : Prop := r = .returned (.tuple #[]) ∧ ∃ w1 cm th tv cv, PlayG w0 w1 B Kb Lf Rn Rd C W' l rk cm k th left jv tv cv rs pb rb eb n runs ends mb lb nb rw T' ran ∧ S8.CoreG l rk cm k th (vis hi T' left) ∧ S8.ComingG l rk cm ∧ cm.length ≤ 4000 ∧ cm.take k = cm0.take k

set_option maxRecDepth 20000 in
set_option maxHeartbeats 4000000 in
theorem ran_any (w0 w1 : World) (B Kb Lf Rn Rd C : Nat) (W : World) (l : List Jb) (rk cm : List Nat) (k : Nat) (th : List Nat) (left : List Int) (jv tv cv : Value) (rs pb rb eb n : Nat) (runs ends : List Int) (mb lb nb rw : Nat) (T : Int) (ran : List Int) (set : List Cr) (cs : List Co) (tk : List Int) (sv qv tkv : Value) (sb cb ob tb j : Nat) (v t1 y : Int)
    (h : PlayG w0 w1 B Kb Lf Rn Rd C W l rk cm k th left jv tv cv rs pb rb eb n runs ends mb lb nb rw T ran) (hco : S8.CoreG l rk cm k th (vis (hiOf set cs) T left)) (hcm : S8.ComingG l rk cm) (hr : S8.Ranked l 1 rk) (hwh : Whose set cs) (hlen : cs.length = l.length) (hE : ∀ w1 T, Base w0 w1 mb T → EnvM w1 l set cs tk jv sv qv tkv sb cb ob tb)
    (hj : j < l.length) (hrl : ran.length = l.length) (hv : S8.L ran j = v) (hv0 : 0 ≤ v ∧ v ≤ 20000) (hy : tk[j]? = some y) (hty : tk.length = l.length) (hl : l.length ≤ 4000) (ht1 : 1 ≤ t1) (hcl : cm.length ≤ 4000) :
    Calls Tryz.prog 69 #[.int .i64 (j : Int), .int .i64 t1, .pointer (some ⟨nb, 0, none⟩), .pointer (some ⟨ob, 0, none⟩), .pointer (some ⟨mb, 0, none⟩), .pointer (some ⟨tb, 0, none⟩), .pointer (some ⟨lb, 0, none⟩)] W (RanPost w0 B Kb Lf Rn Rd C l rk cm k left jv rs pb rb eb n runs ends mb lb nb rw (turnI T (v + 1) (crOf set cs j).c y t1) (ran.set j (v + 1)) (hiOf set cs)) := by
  have HE := hE w1 T h.base
  have nb0 : W.cell? ⟨nb, 0, none⟩ = some (.slice (some ⟨rw, 0, none⟩) l.length l.length) := (cells_of (l := [_]) h.nbx).1 0 _ rfl
  obtain ⟨rwc, rwf, rwl⟩ := cells_of (l := ran.map (Value.int .i64)) h.rnw
  have rwj : W.cell? ⟨rw, j, none⟩ = some (.int .i64 v) := rwc j _ (by
    rw [List.getElem?_map, List.getElem?_eq_getElem (by omega)]
    unfold S8.L at hv
    rw [List.getD_eq_getElem?_getD, List.getElem?_eq_getElem (by omega)] at hv
    simp at hv
    simp [hv])
  have fwj := rwf j
  have hji : (j : Int) < (l.length : Int) := by omega
  have h1 := h.ranS (i := j) (v := v + 1)
  have hb1 := h1.line.bel
  have HC := (HE.of.below hb1).call hwh (j := j) (by omega)
  have ho1 := below_cell hb1 HE.of.o
  have H1 : Hid (PlayG w0 w1 B Kb Lf Rn Rd C (W.setCell ⟨rw, j, none⟩ (.int .i64 (v + 1))) l rk cm k th left jv tv cv rs pb rb eb n runs ends mb lb nb rw T (ran.set j (v + 1))) := h1
  have HK : Hid (S8.CoreG l rk cm k th (vis (hiOf set cs) T left) ∧ S8.ComingG l rk cm ∧ S8.Ranked l 1 rk ∧ Whose set cs ∧ cs.length = l.length ∧ (∀ w1 T, Base w0 w1 mb T → EnvM w1 l set cs tk jv sv qv tkv sb cb ob tb) ∧ ran.length = l.length ∧ tk[j]? = some y) := ⟨hco, hcm, hr, hwh, hlen, hE, hrl, hy⟩
  have hnr : ¬ nb = rw := h.ne.2.2.2.2.2.2.2.2.2.2.2.2.2.2.2.2.2.2.2.2
  have hor : ¬ ob = rw := fun e => by
    have e1 := World.block_lt_of_cell? _ _ HE.of.o
    have e2 := h.bs rw (by simp)
    have e3 := h.line.low.2
    dsimp only at e1
    omega
  have hlow := h.line.low
  have hrwB := h.bs rw (by simp)
  clear h h1 hb1 HE rwc rwf hco hcm hr hwh hlen hE hrl hv hy
  unfold turnI
  obtain ⟨xx, hxx⟩ : ∃ xx, crOf set cs j = xx := ⟨_, rfl⟩
  rw [hxx] at HC ⊢
  clear hxx
  obtain ⟨xc, xh, xt, xd, xi, xp⟩ := xx
  unfold Cr.val at HC
  dsimp only at HC ⊢
  have hv1 : v + 1 < 2147483648 := by omega
  go_enter Tryz.func69, Tryz.ntmps69
  go_upto_region 2 with (go_at_call 67; refine HC.mono ?_; rintro r w2 ⟨rfl, hb2⟩; have H2 : Hid (PlayG w0 w1 B Kb Lf Rn Rd C w2 l rk cm k th left jv tv cv rs pb rb eb n runs ends mb lb nb rw T (ran.set j (v + 1))) := H1.out.below hb2; clear hb2 HC)
  have HP : Hid (PlayG w0 w1 B Kb Lf Rn Rd C (w2.alloc (.cells #[.int .i64 xc, .int .i64 xh, .int .i64 xt, .int .i64 xd, .bool xi, .int .i64 xp] 35)) l rk cm k th left jv tv cv rs pb rb eb n runs ends mb lb nb rw T (ran.set j (v + 1))) := H2.out.below (below_new _ _)
  have tg0 := (cells_of (l := [_, _, _, _, _, _]) (heap_alloc_new w2 (.cells #[.int .i64 xc, .int .i64 xh, .int .i64 xt, .int .i64 xd, .bool xi, .int .i64 xp] 35))).1 0 _ rfl
  have HE1 := HK.out.2.2.2.2.2.1 w1 T HP.out.base
  have m2 := (cells_of (l := [_, _, _]) ((HP.out.line.bel.block mb (by rw [HP.out.base.size]; exact HP.out.mlt)).trans HP.out.base.m)).1 2 _ rfl
  have fm2 := (cells_of (l := [_, _, _]) ((HP.out.line.bel.block mb (by rw [HP.out.base.size]; exact HP.out.mlt)).trans HP.out.base.m)).2.1 2
  have nb0 := (cells_of (l := [_]) HP.out.nbx).1 0 _ rfl
  have lb0 := (cells_of (l := [_]) HP.out.lbx).1 0 _ rfl
  have rwj := (cells_of (l := (ran.set j (v + 1)).map (Value.int .i64)) HP.out.rnw).1 j (.int .i64 (v + 1)) (by rw [List.getElem?_map, List.getElem?_set_self (by rw [HK.out.2.2.2.2.2.2.1]; exact hj)]; rfl)
  have tb0 := below_cell HP.out.line.bel HE1.tb
  obtain ⟨qd, qc, rfl, -, hqc, hqr⟩ := HE1.tk
  rcases hqr with hqr | ⟨qb, qo, rfl, hqr⟩
  · rw [hqr] at hty; simp at hty; omega
  have qy := below_cell HP.out.line.bel (nu_at hqr HK.out.2.2.2.2.2.2.2)
  rw [hty] at tb0
  have HE2 : Hid (EnvM w1 l set cs tk jv sv qv (.slice (some ⟨qb, qo, none⟩) tk.length qc) sb cb ob tb) := HE1
  clear HE1 hqr H1 H2 ho1
  generalize (w2.alloc (.cells #[.int .i64 xc, .int .i64 xh, .int .i64 xt, .int .i64 xd, .bool xi, .int .i64 xp] 35)) = W3 at *
  obtain ⟨tg, htg⟩ : ∃ tg, w2.heap.size = tg := ⟨_, rfl⟩
  rw [htg] at tg0 ⊢
  clear htg
  by_cases qa : T = -1
  · subst qa
    by_cases qb1 : v + 1 = xc
    · subst qb1
      by_cases qc1 : v + 1 < y
      · rw [if_pos ⟨rfl, rfl, qc1⟩]
        refine wp_region_noPanic ?_
        refine wp_region_held_drew (S := fun w' => w'.cell? ⟨mb, 2, none⟩ = some (.int .i64 (-1)) ∧ w'.cell? ⟨nb, 0, none⟩ = some (.slice (some ⟨rw, 0, none⟩) l.length l.length) ∧ w'.cell? ⟨rw, j, none⟩ = some (.int .i64 (v + 1)) ∧ w'.cell? ⟨tg, 0, none⟩ = some (.int .i64 (v + 1)) ∧ w'.cell? ⟨tb, 0, none⟩ = some (.slice (some ⟨qb, qo, none⟩) l.length qc) ∧ w'.cell? ⟨qb, qo + j, none⟩ = some (.int .i64 y)) (by kernel_rfl) ⟨m2, nb0, rwj, tg0, tb0, qy⟩ (fun hHeld => ?_)
        refine take_at (i := 0) (n := 19) (v := ?_) rfl rfl (by kernel_rfl) (by kernel_rfl) (by kernel_rfl) (fun _ _ _ h => h) (Or.inl ⟨by rfl, ?_⟩) (by assumption) ?_
        rotate_left 1
        · intro wz hSw
          obtain ⟨s0, s1, s2, s3, s4, s5⟩ := hSw
          first | (go_simp; done) | (go_simp; with_reducible rfl)
        simp only [List.set_cons_zero, List.set_cons_succ]
        refine take_at (i := 1) (n := 20) (v := ?_) rfl rfl (by kernel_rfl) (by kernel_rfl) (by kernel_rfl) (fun _ _ _ h => h) (Or.inl ⟨by rfl, ?_⟩) (by assumption) ?_
        rotate_left 1
        · intro wz hSw
          obtain ⟨s0, s1, s2, s3, s4, s5⟩ := hSw
          first | (go_simp; done) | (go_simp; with_reducible rfl)
        simp only [List.set_cons_zero, List.set_cons_succ]
        refine take_at (i := 2) (n := 21) (v := ?_) rfl rfl (by kernel_rfl) (by kernel_rfl) (by kernel_rfl) (fun _ _ _ h => h) (Or.inl ⟨by rfl, ?_⟩) (by assumption) ?_
        rotate_left 1
        · intro wz hSw
          obtain ⟨s0, s1, s2, s3, s4, s5⟩ := hSw
          first | (go_simp; done) | (go_simp; with_reducible rfl)
        simp only [List.set_cons_zero, List.set_cons_succ]
        refine take_at (i := 3) (n := 22) (v := ?_) rfl rfl (by kernel_rfl) (by kernel_rfl) (by kernel_rfl) (fun _ _ _ h => h) (Or.inl ⟨by rfl, ?_⟩) (by assumption) ?_
        rotate_left 1
        · intro wz hSw
          obtain ⟨s0, s1, s2, s3, s4, s5⟩ := hSw
          first | (go_simp; done) | (go_simp; with_reducible rfl)
        simp only [List.set_cons_zero, List.set_cons_succ]
        refine take_at (i := 4) (n := 23) (v := ?_) rfl rfl (by kernel_rfl) (by kernel_rfl) (by kernel_rfl) (fun _ _ _ h => h) (Or.inl ⟨by rfl, ?_⟩) (by assumption) ?_
        rotate_left 1
        · intro wz hSw
          obtain ⟨s0, s1, s2, s3, s4, s5⟩ := hSw
          first | (go_simp; done) | (go_simp; with_reducible rfl)
        simp only [List.set_cons_zero, List.set_cons_succ]
        refine take_at (i := 5) (n := 24) (v := ?_) rfl rfl (by kernel_rfl) (by kernel_rfl) (by kernel_rfl) (fun _ _ _ h => h) (Or.inl ⟨by rfl, ?_⟩) (by assumption) ?_
        rotate_left 1
        · intro wz hSw
          obtain ⟨s0, s1, s2, s3, s4, s5⟩ := hSw
          first | (go_simp; done) | (go_simp; with_reducible rfl)
        simp only [List.set_cons_zero, List.set_cons_succ]
        refine take_at (i := 6) (n := 25) (v := ?_) rfl rfl (by kernel_rfl) (by kernel_rfl) (by kernel_rfl) (fun _ _ _ h => h) (Or.inl ⟨by rfl, ?_⟩) (by assumption) ?_
        rotate_left 1
        · intro wz hSw
          obtain ⟨s0, s1, s2, s3, s4, s5⟩ := hSw
          first | (go_simp; done) | (go_simp; with_reducible rfl)
        simp only [List.set_cons_zero, List.set_cons_succ]
        refine take_at (i := 7) (n := 26) (v := ?_) rfl rfl (by kernel_rfl) (by kernel_rfl) (by kernel_rfl) (fun _ _ _ h => h) (Or.inl ⟨by rfl, ?_⟩) (by assumption) ?_
        rotate_left 1
        · intro wz hSw
          obtain ⟨s0, s1, s2, s3, s4, s5⟩ := hSw
          first | (go_simp; done) | (go_simp; with_reducible rfl)
        simp only [List.set_cons_zero, List.set_cons_succ]
        refine take_at (i := 8) (n := 27) (v := ?_) rfl rfl (by kernel_rfl) (by kernel_rfl) (by kernel_rfl) (fun _ _ _ h => h) (Or.inl ⟨by rfl, ?_⟩) (by assumption) ?_
        rotate_left 1
        · intro wz hSw
          obtain ⟨s0, s1, s2, s3, s4, s5⟩ := hSw
          first | (go_simp; done) | (go_simp; with_reducible rfl)
        simp only [List.set_cons_zero, List.set_cons_succ]
        refine take_at (i := 9) (n := 28) (v := ?_) rfl rfl (by kernel_rfl) (by kernel_rfl) (by kernel_rfl) (fun _ _ _ h => h) (Or.inl ⟨by rfl, ?_⟩) (by assumption) ?_
        rotate_left 1
        · intro wz hSw
          obtain ⟨s0, s1, s2, s3, s4, s5⟩ := hSw
          first | (go_simp; done) | (go_simp; with_reducible rfl)
        simp only [List.set_cons_zero, List.set_cons_succ]
        refine take_at (i := 10) (n := 29) (v := ?_) rfl rfl (by kernel_rfl) (by kernel_rfl) (by kernel_rfl) (fun _ _ _ h => h) (Or.inl ⟨by rfl, ?_⟩) (by assumption) ?_
        rotate_left 1
        · intro wz hSw
          obtain ⟨s0, s1, s2, s3, s4, s5⟩ := hSw
          first | (go_simp; done) | (go_simp; with_reducible rfl)
        simp only [List.set_cons_zero, List.set_cons_succ]
        refine take_at (i := 11) (n := 30) (v := ?_) rfl rfl (by kernel_rfl) (by kernel_rfl) (by kernel_rfl) (fun _ _ _ h => h) (Or.inl ⟨by rfl, ?_⟩) (by assumption) ?_
        rotate_left 1
        · intro wz hSw
          obtain ⟨s0, s1, s2, s3, s4, s5⟩ := hSw
          first | (go_simp; done) | (go_simp; with_reducible rfl)
        simp only [List.set_cons_zero, List.set_cons_succ]
        refine take_at (i := 12) (n := 31) (v := ?_) rfl rfl (by kernel_rfl) (by kernel_rfl) (by kernel_rfl) (fun _ _ _ h => h) (Or.inl ⟨by rfl, ?_⟩) (by assumption) ?_
        rotate_left 1
        · intro wz hSw
          obtain ⟨s0, s1, s2, s3, s4, s5⟩ := hSw
          first | (go_simp; done) | (go_simp; with_reducible rfl)
        simp only [List.set_cons_zero, List.set_cons_succ]
        refine take_at (i := 13) (n := 32) (v := ?_) rfl rfl (by kernel_rfl) (by kernel_rfl) (by kernel_rfl) (fun _ _ _ h => h) (Or.inl ⟨by rfl, ?_⟩) (by assumption) ?_
        rotate_left 1
        · intro wz hSw
          obtain ⟨s0, s1, s2, s3, s4, s5⟩ := hSw
          first | (go_simp; done) | (go_simp; with_reducible rfl)
        simp only [List.set_cons_zero, List.set_cons_succ]
        refine take_at (i := 14) (n := 33) (v := ?_) rfl rfl (by kernel_rfl) (by kernel_rfl) (by kernel_rfl) (fun _ _ _ h => h) (Or.inl ⟨by rfl, ?_⟩) (by assumption) ?_
        rotate_left 1
        · intro wz hSw
          obtain ⟨s0, s1, s2, s3, s4, s5⟩ := hSw
          first | (go_simp; done) | (go_simp; with_reducible rfl)
        simp only [List.set_cons_zero, List.set_cons_succ]
        refine take_at (i := 15) (n := 34) (v := ?_) rfl rfl (by kernel_rfl) (by kernel_rfl) (by kernel_rfl) (fun _ _ _ h => h) (Or.inl ⟨by rfl, ?_⟩) (by assumption) ?_
        rotate_left 1
        · intro wz hSw
          obtain ⟨s0, s1, s2, s3, s4, s5⟩ := hSw
          first | (go_simp; done) | (go_simp; with_reducible rfl)
        simp only [List.set_cons_zero, List.set_cons_succ]
        refine take_at (i := 16) (n := 35) (v := ?_) rfl rfl (by kernel_rfl) (by kernel_rfl) (by kernel_rfl) (fun _ _ _ h => h) (Or.inl ⟨by rfl, ?_⟩) (by assumption) ?_
        rotate_left 1
        · intro wz hSw
          obtain ⟨s0, s1, s2, s3, s4, s5⟩ := hSw
          first | (go_simp; done) | (go_simp; with_reducible rfl)
        simp only [List.set_cons_zero, List.set_cons_succ]
        refine take_at (i := 17) (n := 36) (v := ?_) rfl rfl (by kernel_rfl) (by kernel_rfl) (by kernel_rfl) (fun _ _ _ h => h) (Or.inl ⟨by rfl, ?_⟩) (by assumption) ?_
        rotate_left 1
        · intro wz hSw
          obtain ⟨s0, s1, s2, s3, s4, s5⟩ := hSw
          first | (go_simp; done) | (go_simp; with_reducible rfl)
        simp only [List.set_cons_zero, List.set_cons_succ]
        refine take_at (i := 18) (n := 37) (v := ?_) rfl rfl (by kernel_rfl) (by kernel_rfl) (by kernel_rfl) (fun _ _ _ h => h) (Or.inl ⟨by rfl, ?_⟩) (by assumption) ?_
        rotate_left 1
        · intro wz hSw
          obtain ⟨s0, s1, s2, s3, s4, s5⟩ := hSw
          first | (go_simp; done) | (go_simp; with_reducible rfl)
        simp only [List.set_cons_zero, List.set_cons_succ]
        refine take_at (i := 19) (n := 38) (v := ?_) rfl rfl (by kernel_rfl) (by kernel_rfl) (by kernel_rfl) (fun _ _ _ h => h) (Or.inl ⟨by rfl, ?_⟩) (by assumption) ?_
        rotate_left 1
        · intro wz hSw
          obtain ⟨s0, s1, s2, s3, s4, s5⟩ := hSw
          first | (go_simp; done) | (go_simp; with_reducible rfl)
        simp only [List.set_cons_zero, List.set_cons_succ]
        refine take_at (i := 20) (n := 39) (v := ?_) rfl rfl (by kernel_rfl) (by kernel_rfl) (by kernel_rfl) (fun _ _ _ h => h) (Or.inl ⟨by rfl, ?_⟩) (by assumption) ?_
        rotate_left 1
        · intro wz hSw
          obtain ⟨s0, s1, s2, s3, s4, s5⟩ := hSw
          first | (go_simp; done) | (go_simp; with_reducible rfl)
        simp only [List.set_cons_zero, List.set_cons_succ]
        refine wpAnyH_done (by kernel_rfl) ?_ _
        refine NoPanic.normal ?_
        clear hHeld
        go_upto_region 4 with fail
        have HE3 := HK.out.2.2.2.2.2.1 _ t1 (HP.out.base.turn t1)
        have HT : Hid (PlayG w0 (w1.setCell ⟨mb, 2, none⟩ (.int .i64 t1)) B Kb Lf Rn Rd C (W3.setCell ⟨mb, 2, none⟩ (.int .i64 t1)).drew l rk cm k th left jv tv cv rs pb rb eb n runs ends mb lb nb rw t1 (ran.set j (v + 1))) := (HP.out.turn t1 HE3.jobs).below (Below.refl _ _).drew
        have HE4 : Hid (OfW (w1.setCell ⟨mb, 2, none⟩ (.int .i64 t1)) set cs sv qv sb cb ob) := HE3.of
        clear HE3
        generalize (W3.setCell ⟨mb, 2, none⟩ (.int .i64 t1)).drew = W5 at *
        have lb5 := (cells_of (l := [_]) HT.out.lbx).1 0 _ rfl
        have HGv := GiveUp_any _ W5 B Kb Lf Rn Rd C l rk cm k th left jv tv cv set cs sv qv sb cb ob HT.out.line (by have h1 := HT.out.hd; have h2 := HT.out.base.size; rw [h2]; exact ⟨h1.1, h1.2.2.2.1, h1.2.2.2.2⟩) HK.out.2.2.1 (fun p hp => HK.out.1.lt HK.out.2.1 hp) HK.out.2.1.mem (by have := HK.out.1.len HK.out.2.1; omega) (by omega) HE4.out HK.out.2.2.2.1 HK.out.2.2.2.2.1
        go_wp2_with (go_at_call 70; refine HGv.mono ?_; rintro r W6 ⟨rfl, tv', cv', hl6, hm6⟩; have H6 : Hid (PlayG w0 (w1.setCell ⟨mb, 2, none⟩ (.int .i64 t1)) B Kb Lf Rn Rd C W6 l rk (cm.take k ++ (cm.drop k).filter (fun p => hiOf set cs (S8.RK rk p))) k (th.filter (fun p => hiOf set cs (S8.RK rk p))) left jv tv' cv' rs pb rb eb n runs ends mb lb nb rw t1 (ran.set j (v + 1))) := HT.out.moved hl6 hm6; clear hl6 hm6 HGv)
        all_goals
          go_end0
          refine ⟨rfl, _, _, _, _, _, H6.out, HK.out.1.give (b := hiOf set cs) (fun i => ?_), HK.out.2.1.give k _, (by have h9 := List.length_filter_le (fun p => hiOf set cs (S8.RK rk p)) (cm.drop k); rw [List.length_drop] at h9; rw [List.length_append, List.length_take]; omega), (by have h9 := HK.out.1.core.kle; rw [List.take_append_of_le_length (by rw [List.length_take]; omega), List.take_of_length_le (by rw [List.length_take]; omega)])⟩
          have e1 : S8.L (vis (hiOf set cs) (-1) left) i = S8.L left i := by rw [L_vis, if_pos (.inl (by decide))]
          rw [e1, L_vis]
          have hn1 : ¬ t1 < 0 := by omega
          simp only [hn1, false_or]
      · rw [if_neg (fun e => qc1 e.2.2)]
        refine wp_region_noPanic ?_
        refine wp_region_held_drew (S := fun w' => w'.cell? ⟨mb, 2, none⟩ = some (.int .i64 (-1)) ∧ w'.cell? ⟨nb, 0, none⟩ = some (.slice (some ⟨rw, 0, none⟩) l.length l.length) ∧ w'.cell? ⟨rw, j, none⟩ = some (.int .i64 (v + 1)) ∧ w'.cell? ⟨tg, 0, none⟩ = some (.int .i64 (v + 1)) ∧ w'.cell? ⟨tb, 0, none⟩ = some (.slice (some ⟨qb, qo, none⟩) l.length qc) ∧ w'.cell? ⟨qb, qo + j, none⟩ = some (.int .i64 y)) (by kernel_rfl) ⟨m2, nb0, rwj, tg0, tb0, qy⟩ (fun hHeld => ?_)
        refine take_at (i := 0) (n := 19) (v := ?_) rfl rfl (by kernel_rfl) (by kernel_rfl) (by kernel_rfl) (fun _ _ _ h => h) (Or.inl ⟨by rfl, ?_⟩) (by assumption) ?_
        rotate_left 1
        · intro wz hSw
          obtain ⟨s0, s1, s2, s3, s4, s5⟩ := hSw
          first | (go_simp; done) | (go_simp; with_reducible rfl)
        simp only [List.set_cons_zero, List.set_cons_succ]
        refine take_at (i := 1) (n := 20) (v := ?_) rfl rfl (by kernel_rfl) (by kernel_rfl) (by kernel_rfl) (fun _ _ _ h => h) (Or.inl ⟨by rfl, ?_⟩) (by assumption) ?_
        rotate_left 1
        · intro wz hSw
          obtain ⟨s0, s1, s2, s3, s4, s5⟩ := hSw
          first | (go_simp; done) | (go_simp; with_reducible rfl)
        simp only [List.set_cons_zero, List.set_cons_succ]
        refine take_at (i := 2) (n := 21) (v := ?_) rfl rfl (by kernel_rfl) (by kernel_rfl) (by kernel_rfl) (fun _ _ _ h => h) (Or.inl ⟨by rfl, ?_⟩) (by assumption) ?_
        rotate_left 1
        · intro wz hSw
          obtain ⟨s0, s1, s2, s3, s4, s5⟩ := hSw
          first | (go_simp; done) | (go_simp; with_reducible rfl)
        simp only [List.set_cons_zero, List.set_cons_succ]
        refine take_at (i := 3) (n := 22) (v := ?_) rfl rfl (by kernel_rfl) (by kernel_rfl) (by kernel_rfl) (fun _ _ _ h => h) (Or.inl ⟨by rfl, ?_⟩) (by assumption) ?_
        rotate_left 1
        · intro wz hSw
          obtain ⟨s0, s1, s2, s3, s4, s5⟩ := hSw
          first | (go_simp; done) | (go_simp; with_reducible rfl)
        simp only [List.set_cons_zero, List.set_cons_succ]
        refine take_at (i := 4) (n := 23) (v := ?_) rfl rfl (by kernel_rfl) (by kernel_rfl) (by kernel_rfl) (fun _ _ _ h => h) (Or.inl ⟨by rfl, ?_⟩) (by assumption) ?_
        rotate_left 1
        · intro wz hSw
          obtain ⟨s0, s1, s2, s3, s4, s5⟩ := hSw
          first | (go_simp; done) | (go_simp; with_reducible rfl)
        simp only [List.set_cons_zero, List.set_cons_succ]
        refine take_at (i := 5) (n := 24) (v := ?_) rfl rfl (by kernel_rfl) (by kernel_rfl) (by kernel_rfl) (fun _ _ _ h => h) (Or.inl ⟨by rfl, ?_⟩) (by assumption) ?_
        rotate_left 1
        · intro wz hSw
          obtain ⟨s0, s1, s2, s3, s4, s5⟩ := hSw
          first | (go_simp; done) | (go_simp; with_reducible rfl)
        simp only [List.set_cons_zero, List.set_cons_succ]
        refine take_at (i := 6) (n := 25) (v := ?_) rfl rfl (by kernel_rfl) (by kernel_rfl) (by kernel_rfl) (fun _ _ _ h => h) (Or.inl ⟨by rfl, ?_⟩) (by assumption) ?_
        rotate_left 1
        · intro wz hSw
          obtain ⟨s0, s1, s2, s3, s4, s5⟩ := hSw
          first | (go_simp; done) | (go_simp; with_reducible rfl)
        simp only [List.set_cons_zero, List.set_cons_succ]
        refine take_at (i := 7) (n := 26) (v := ?_) rfl rfl (by kernel_rfl) (by kernel_rfl) (by kernel_rfl) (fun _ _ _ h => h) (Or.inl ⟨by rfl, ?_⟩) (by assumption) ?_
        rotate_left 1
        · intro wz hSw
          obtain ⟨s0, s1, s2, s3, s4, s5⟩ := hSw
          first | (go_simp; done) | (go_simp; with_reducible rfl)
        simp only [List.set_cons_zero, List.set_cons_succ]
        refine take_at (i := 8) (n := 27) (v := ?_) rfl rfl (by kernel_rfl) (by kernel_rfl) (by kernel_rfl) (fun _ _ _ h => h) (Or.inl ⟨by rfl, ?_⟩) (by assumption) ?_
        rotate_left 1
        · intro wz hSw
          obtain ⟨s0, s1, s2, s3, s4, s5⟩ := hSw
          first | (go_simp; done) | (go_simp; with_reducible rfl)
        simp only [List.set_cons_zero, List.set_cons_succ]
        refine take_at (i := 9) (n := 28) (v := ?_) rfl rfl (by kernel_rfl) (by kernel_rfl) (by kernel_rfl) (fun _ _ _ h => h) (Or.inl ⟨by rfl, ?_⟩) (by assumption) ?_
        rotate_left 1
        · intro wz hSw
          obtain ⟨s0, s1, s2, s3, s4, s5⟩ := hSw
          first | (go_simp; done) | (go_simp; with_reducible rfl)
        simp only [List.set_cons_zero, List.set_cons_succ]
        refine take_at (i := 10) (n := 29) (v := ?_) rfl rfl (by kernel_rfl) (by kernel_rfl) (by kernel_rfl) (fun _ _ _ h => h) (Or.inl ⟨by rfl, ?_⟩) (by assumption) ?_
        rotate_left 1
        · intro wz hSw
          obtain ⟨s0, s1, s2, s3, s4, s5⟩ := hSw
          first | (go_simp; done) | (go_simp; with_reducible rfl)
        simp only [List.set_cons_zero, List.set_cons_succ]
        refine take_at (i := 11) (n := 30) (v := ?_) rfl rfl (by kernel_rfl) (by kernel_rfl) (by kernel_rfl) (fun _ _ _ h => h) (Or.inl ⟨by rfl, ?_⟩) (by assumption) ?_
        rotate_left 1
        · intro wz hSw
          obtain ⟨s0, s1, s2, s3, s4, s5⟩ := hSw
          first | (go_simp; done) | (go_simp; with_reducible rfl)
        simp only [List.set_cons_zero, List.set_cons_succ]
        refine take_at (i := 12) (n := 31) (v := ?_) rfl rfl (by kernel_rfl) (by kernel_rfl) (by kernel_rfl) (fun _ _ _ h => h) (Or.inl ⟨by rfl, ?_⟩) (by assumption) ?_
        rotate_left 1
        · intro wz hSw
          obtain ⟨s0, s1, s2, s3, s4, s5⟩ := hSw
          first | (go_simp; done) | (go_simp; with_reducible rfl)
        simp only [List.set_cons_zero, List.set_cons_succ]
        refine take_at (i := 13) (n := 32) (v := ?_) rfl rfl (by kernel_rfl) (by kernel_rfl) (by kernel_rfl) (fun _ _ _ h => h) (Or.inl ⟨by rfl, ?_⟩) (by assumption) ?_
        rotate_left 1
        · intro wz hSw
          obtain ⟨s0, s1, s2, s3, s4, s5⟩ := hSw
          first | (go_simp; done) | (go_simp; with_reducible rfl)
        simp only [List.set_cons_zero, List.set_cons_succ]
        refine take_at (i := 14) (n := 33) (v := ?_) rfl rfl (by kernel_rfl) (by kernel_rfl) (by kernel_rfl) (fun _ _ _ h => h) (Or.inl ⟨by rfl, ?_⟩) (by assumption) ?_
        rotate_left 1
        · intro wz hSw
          obtain ⟨s0, s1, s2, s3, s4, s5⟩ := hSw
          first | (go_simp; done) | (go_simp; with_reducible rfl)
        simp only [List.set_cons_zero, List.set_cons_succ]
        refine take_at (i := 15) (n := 34) (v := ?_) rfl rfl (by kernel_rfl) (by kernel_rfl) (by kernel_rfl) (fun _ _ _ h => h) (Or.inl ⟨by rfl, ?_⟩) (by assumption) ?_
        rotate_left 1
        · intro wz hSw
          obtain ⟨s0, s1, s2, s3, s4, s5⟩ := hSw
          first | (go_simp; done) | (go_simp; with_reducible rfl)
        simp only [List.set_cons_zero, List.set_cons_succ]
        refine take_at (i := 16) (n := 35) (v := ?_) rfl rfl (by kernel_rfl) (by kernel_rfl) (by kernel_rfl) (fun _ _ _ h => h) (Or.inl ⟨by rfl, ?_⟩) (by assumption) ?_
        rotate_left 1
        · intro wz hSw
          obtain ⟨s0, s1, s2, s3, s4, s5⟩ := hSw
          first | (go_simp; done) | (go_simp; with_reducible rfl)
        simp only [List.set_cons_zero, List.set_cons_succ]
        refine take_at (i := 17) (n := 36) (v := ?_) rfl rfl (by kernel_rfl) (by kernel_rfl) (by kernel_rfl) (fun _ _ _ h => h) (Or.inl ⟨by rfl, ?_⟩) (by assumption) ?_
        rotate_left 1
        · intro wz hSw
          obtain ⟨s0, s1, s2, s3, s4, s5⟩ := hSw
          first | (go_simp; done) | (go_simp; with_reducible rfl)
        simp only [List.set_cons_zero, List.set_cons_succ]
        refine take_at (i := 18) (n := 37) (v := ?_) rfl rfl (by kernel_rfl) (by kernel_rfl) (by kernel_rfl) (fun _ _ _ h => h) (Or.inl ⟨by rfl, ?_⟩) (by assumption) ?_
        rotate_left 1
        · intro wz hSw
          obtain ⟨s0, s1, s2, s3, s4, s5⟩ := hSw
          first | (go_simp; done) | (go_simp; with_reducible rfl)
        simp only [List.set_cons_zero, List.set_cons_succ]
        refine take_at (i := 19) (n := 38) (v := ?_) rfl rfl (by kernel_rfl) (by kernel_rfl) (by kernel_rfl) (fun _ _ _ h => h) (Or.inl ⟨by rfl, ?_⟩) (by assumption) ?_
        rotate_left 1
        · intro wz hSw
          obtain ⟨s0, s1, s2, s3, s4, s5⟩ := hSw
          first | (go_simp; done) | (go_simp; with_reducible rfl)
        simp only [List.set_cons_zero, List.set_cons_succ]
        refine take_at (i := 20) (n := 39) (v := ?_) rfl rfl (by kernel_rfl) (by kernel_rfl) (by kernel_rfl) (fun _ _ _ h => h) (Or.inl ⟨by rfl, ?_⟩) (by assumption) ?_
        rotate_left 1
        · intro wz hSw
          obtain ⟨s0, s1, s2, s3, s4, s5⟩ := hSw
          first | (go_simp; done) | (go_simp; with_reducible rfl)
        simp only [List.set_cons_zero, List.set_cons_succ]
        refine wpAnyH_done (by kernel_rfl) ?_ _
        refine NoPanic.normal ?_
        clear hHeld
        go_wp2_with fail
        go_end0
        exact ⟨rfl, w1, cm, th, tv, cv, HP.out.below (Below.refl _ _).drew, HK.out.1, HK.out.2.1, hcl, rfl⟩
    · rw [if_neg (fun e => qb1 e.2.1)]
      have qe : (v + 1 == xc) = false := by simpa using qb1
      refine wp_region_noPanic ?_
      refine wp_region_held_drew (S := fun w' => w'.cell? ⟨mb, 2, none⟩ = some (.int .i64 (-1)) ∧ w'.cell? ⟨nb, 0, none⟩ = some (.slice (some ⟨rw, 0, none⟩) l.length l.length) ∧ w'.cell? ⟨rw, j, none⟩ = some (.int .i64 (v + 1)) ∧ w'.cell? ⟨tg, 0, none⟩ = some (.int .i64 xc) ∧ w'.cell? ⟨tb, 0, none⟩ = some (.slice (some ⟨qb, qo, none⟩) l.length qc) ∧ w'.cell? ⟨qb, qo + j, none⟩ = some (.int .i64 y)) (by kernel_rfl) ⟨m2, nb0, rwj, tg0, tb0, qy⟩ (fun hHeld => ?_)
      refine take_at (i := 0) (n := 19) (v := ?_) rfl rfl (by kernel_rfl) (by kernel_rfl) (by kernel_rfl) (fun _ _ _ h => h) (Or.inl ⟨by rfl, ?_⟩) (by assumption) ?_
      rotate_left 1
      · intro wz hSw
        obtain ⟨s0, s1, s2, s3, s4, s5⟩ := hSw
        first | (go_simp; done) | (go_simp; with_reducible rfl)
      simp only [List.set_cons_zero, List.set_cons_succ]
      refine take_at (i := 1) (n := 20) (v := ?_) rfl rfl (by kernel_rfl) (by kernel_rfl) (by kernel_rfl) (fun _ _ _ h => h) (Or.inl ⟨by rfl, ?_⟩) (by assumption) ?_
      rotate_left 1
      · intro wz hSw
        obtain ⟨s0, s1, s2, s3, s4, s5⟩ := hSw
        first | (go_simp; done) | (go_simp; with_reducible rfl)
      simp only [List.set_cons_zero, List.set_cons_succ]
      refine take_at (i := 2) (n := 21) (v := ?_) rfl rfl (by kernel_rfl) (by kernel_rfl) (by kernel_rfl) (fun _ _ _ h => h) (Or.inl ⟨by rfl, ?_⟩) (by assumption) ?_
      rotate_left 1
      · intro wz hSw
        obtain ⟨s0, s1, s2, s3, s4, s5⟩ := hSw
        first | (go_simp; done) | (go_simp; with_reducible rfl)
      simp only [List.set_cons_zero, List.set_cons_succ]
      refine take_at (i := 3) (n := 22) (v := ?_) rfl rfl (by kernel_rfl) (by kernel_rfl) (by kernel_rfl) (fun _ _ _ h => h) (Or.inl ⟨by rfl, ?_⟩) (by assumption) ?_
      rotate_left 1
      · intro wz hSw
        obtain ⟨s0, s1, s2, s3, s4, s5⟩ := hSw
        first | (go_simp; done) | (go_simp; with_reducible rfl)
      simp only [List.set_cons_zero, List.set_cons_succ]
      refine take_at (i := 4) (n := 23) (v := ?_) rfl rfl (by kernel_rfl) (by kernel_rfl) (by kernel_rfl) (fun _ _ _ h => h) (Or.inl ⟨by rfl, ?_⟩) (by assumption) ?_
      rotate_left 1
      · intro wz hSw
        obtain ⟨s0, s1, s2, s3, s4, s5⟩ := hSw
        first | (go_simp; done) | (go_simp; with_reducible rfl)
      simp only [List.set_cons_zero, List.set_cons_succ]
      refine take_at (i := 5) (n := 24) (v := ?_) rfl rfl (by kernel_rfl) (by kernel_rfl) (by kernel_rfl) (fun _ _ _ h => h) (Or.inl ⟨by rfl, ?_⟩) (by assumption) ?_
      rotate_left 1
      · intro wz hSw
        obtain ⟨s0, s1, s2, s3, s4, s5⟩ := hSw
        first | (go_simp; done) | (go_simp; with_reducible rfl)
      simp only [List.set_cons_zero, List.set_cons_succ]
      refine take_at (i := 6) (n := 25) (v := ?_) rfl rfl (by kernel_rfl) (by kernel_rfl) (by kernel_rfl) (fun _ _ _ h => h) (Or.inl ⟨by rfl, ?_⟩) (by assumption) ?_
      rotate_left 1
      · intro wz hSw
        obtain ⟨s0, s1, s2, s3, s4, s5⟩ := hSw
        first | (go_simp; done) | (go_simp; with_reducible rfl)
      simp only [List.set_cons_zero, List.set_cons_succ]
      refine take_at (i := 7) (n := 26) (v := ?_) rfl rfl (by kernel_rfl) (by kernel_rfl) (by kernel_rfl) (fun _ _ _ h => h) (Or.inl ⟨by rfl, ?_⟩) (by assumption) ?_
      rotate_left 1
      · intro wz hSw
        obtain ⟨s0, s1, s2, s3, s4, s5⟩ := hSw
        first | (go_simp; done) | (go_simp; with_reducible rfl)
      simp only [List.set_cons_zero, List.set_cons_succ]
      refine take_at (i := 8) (n := 27) (v := ?_) rfl rfl (by kernel_rfl) (by kernel_rfl) (by kernel_rfl) (fun _ _ _ h => h) (Or.inl ⟨by rfl, ?_⟩) (by assumption) ?_
      rotate_left 1
      · intro wz hSw
        obtain ⟨s0, s1, s2, s3, s4, s5⟩ := hSw
        first | (go_simp; done) | (go_simp; with_reducible rfl)
      simp only [List.set_cons_zero, List.set_cons_succ]
      refine take_at (i := 9) (n := 28) (v := ?_) rfl rfl (by kernel_rfl) (by kernel_rfl) (by kernel_rfl) (fun _ _ _ h => h) (Or.inl ⟨by rfl, ?_⟩) (by assumption) ?_
      rotate_left 1
      · intro wz hSw
        obtain ⟨s0, s1, s2, s3, s4, s5⟩ := hSw
        first | (go_simp; done) | (go_simp; with_reducible rfl)
      simp only [List.set_cons_zero, List.set_cons_succ]
      refine take_at (i := 10) (n := 29) (v := ?_) rfl rfl (by kernel_rfl) (by kernel_rfl) (by kernel_rfl) (fun _ _ _ h => h) (Or.inl ⟨by rfl, ?_⟩) (by assumption) ?_
      rotate_left 1
      · intro wz hSw
        obtain ⟨s0, s1, s2, s3, s4, s5⟩ := hSw
        first | (go_simp; done) | (go_simp; with_reducible rfl)
      simp only [List.set_cons_zero, List.set_cons_succ]
      refine take_at (i := 11) (n := 30) (v := ?_) rfl rfl (by kernel_rfl) (by kernel_rfl) (by kernel_rfl) (fun _ _ _ h => h) (Or.inl ⟨by rfl, ?_⟩) (by assumption) ?_
      rotate_left 1
      · intro wz hSw
        obtain ⟨s0, s1, s2, s3, s4, s5⟩ := hSw
        first | (go_simp; done) | (go_simp; with_reducible rfl)
      simp only [List.set_cons_zero, List.set_cons_succ]
      refine take_at (i := 12) (n := 31) (v := ?_) rfl rfl (by kernel_rfl) (by kernel_rfl) (by kernel_rfl) (fun _ _ _ h => h) (Or.inl ⟨by rfl, ?_⟩) (by assumption) ?_
      rotate_left 1
      · intro wz hSw
        obtain ⟨s0, s1, s2, s3, s4, s5⟩ := hSw
        first | (go_simp; done) | (go_simp; with_reducible rfl)
      simp only [List.set_cons_zero, List.set_cons_succ]
      refine take_at (i := 13) (n := 32) (v := undef) rfl rfl (by kernel_rfl) (by kernel_rfl) (by kernel_rfl) (fun _ _ _ h => h) (Or.inr ⟨by rfl, rfl⟩) (by assumption) ?_
      simp only [List.set_cons_zero, List.set_cons_succ]
      refine take_at (i := 14) (n := 33) (v := undef) rfl rfl (by kernel_rfl) (by kernel_rfl) (by kernel_rfl) (fun _ _ _ h => h) (Or.inr ⟨by rfl, rfl⟩) (by assumption) ?_
      simp only [List.set_cons_zero, List.set_cons_succ]
      refine take_at (i := 15) (n := 34) (v := undef) rfl rfl (by kernel_rfl) (by kernel_rfl) (by kernel_rfl) (fun _ _ _ h => h) (Or.inr ⟨by rfl, rfl⟩) (by assumption) ?_
      simp only [List.set_cons_zero, List.set_cons_succ]
      refine take_at (i := 16) (n := 35) (v := undef) rfl rfl (by kernel_rfl) (by kernel_rfl) (by kernel_rfl) (fun _ _ _ h => h) (Or.inr ⟨by rfl, rfl⟩) (by assumption) ?_
      simp only [List.set_cons_zero, List.set_cons_succ]
      refine take_at (i := 17) (n := 36) (v := undef) rfl rfl (by kernel_rfl) (by kernel_rfl) (by kernel_rfl) (fun _ _ _ h => h) (Or.inr ⟨by rfl, rfl⟩) (by assumption) ?_
      simp only [List.set_cons_zero, List.set_cons_succ]
      refine take_at (i := 18) (n := 37) (v := undef) rfl rfl (by kernel_rfl) (by kernel_rfl) (by kernel_rfl) (fun _ _ _ h => h) (Or.inr ⟨by rfl, rfl⟩) (by assumption) ?_
      simp only [List.set_cons_zero, List.set_cons_succ]
      refine take_at (i := 19) (n := 38) (v := undef) rfl rfl (by kernel_rfl) (by kernel_rfl) (by kernel_rfl) (fun _ _ _ h => h) (Or.inr ⟨by rfl, rfl⟩) (by assumption) ?_
      simp only [List.set_cons_zero, List.set_cons_succ]
      refine take_at (i := 20) (n := 39) (v := ?_) rfl rfl (by kernel_rfl) (by kernel_rfl) (by kernel_rfl) (fun _ _ _ h => h) (Or.inl ⟨by rfl, ?_⟩) (by assumption) ?_
      rotate_left 1
      · intro wz hSw
        obtain ⟨s0, s1, s2, s3, s4, s5⟩ := hSw
        first | (go_simp; done) | (go_simp; with_reducible rfl)
      simp only [List.set_cons_zero, List.set_cons_succ]
      refine wpAnyH_done (by kernel_rfl) ?_ _
      refine NoPanic.normal ?_
      clear hHeld
      go_wp2_with fail
      go_end0
      exact ⟨rfl, w1, cm, th, tv, cv, HP.out.below (Below.refl _ _).drew, HK.out.1, HK.out.2.1, hcl, rfl⟩
  · rw [if_neg (fun e => qa e.1)]
    have qe : (T == -1) = false := by simpa using qa
    refine wp_region_noPanic ?_
    refine wp_region_held_drew (S := fun w' => w'.cell? ⟨mb, 2, none⟩ = some (.int .i64 T) ∧ w'.cell? ⟨nb, 0, none⟩ = some (.slice (some ⟨rw, 0, none⟩) l.length l.length) ∧ w'.cell? ⟨rw, j, none⟩ = some (.int .i64 (v + 1)) ∧ w'.cell? ⟨tg, 0, none⟩ = some (.int .i64 xc) ∧ w'.cell? ⟨tb, 0, none⟩ = some (.slice (some ⟨qb, qo, none⟩) l.length qc) ∧ w'.cell? ⟨qb, qo + j, none⟩ = some (.int .i64 y)) (by kernel_rfl) ⟨m2, nb0, rwj, tg0, tb0, qy⟩ (fun hHeld => ?_)
    refine take_at (i := 0) (n := 19) (v := ?_) rfl rfl (by kernel_rfl) (by kernel_rfl) (by kernel_rfl) (fun _ _ _ h => h) (Or.inl ⟨by rfl, ?_⟩) (by assumption) ?_
    rotate_left 1
    · intro wz hSw
      obtain ⟨s0, s1, s2, s3, s4, s5⟩ := hSw
      first | (go_simp; done) | (go_simp; with_reducible rfl)
    simp only [List.set_cons_zero, List.set_cons_succ]
    refine take_at (i := 1) (n := 20) (v := ?_) rfl rfl (by kernel_rfl) (by kernel_rfl) (by kernel_rfl) (fun _ _ _ h => h) (Or.inl ⟨by rfl, ?_⟩) (by assumption) ?_
    rotate_left 1
    · intro wz hSw
      obtain ⟨s0, s1, s2, s3, s4, s5⟩ := hSw
      first | (go_simp; done) | (go_simp; with_reducible rfl)
    simp only [List.set_cons_zero, List.set_cons_succ]
    refine take_at (i := 2) (n := 21) (v := ?_) rfl rfl (by kernel_rfl) (by kernel_rfl) (by kernel_rfl) (fun _ _ _ h => h) (Or.inl ⟨by rfl, ?_⟩) (by assumption) ?_
    rotate_left 1
    · intro wz hSw
      obtain ⟨s0, s1, s2, s3, s4, s5⟩ := hSw
      first | (go_simp; done) | (go_simp; with_reducible rfl)
    simp only [List.set_cons_zero, List.set_cons_succ]
    refine take_at (i := 3) (n := 22) (v := ?_) rfl rfl (by kernel_rfl) (by kernel_rfl) (by kernel_rfl) (fun _ _ _ h => h) (Or.inl ⟨by rfl, ?_⟩) (by assumption) ?_
    rotate_left 1
    · intro wz hSw
      obtain ⟨s0, s1, s2, s3, s4, s5⟩ := hSw
      first | (go_simp; done) | (go_simp; with_reducible rfl)
    simp only [List.set_cons_zero, List.set_cons_succ]
    refine take_at (i := 4) (n := 23) (v := undef) rfl rfl (by kernel_rfl) (by kernel_rfl) (by kernel_rfl) (fun _ _ _ h => h) (Or.inr ⟨by rfl, rfl⟩) (by assumption) ?_
    simp only [List.set_cons_zero, List.set_cons_succ]
    refine take_at (i := 5) (n := 24) (v := undef) rfl rfl (by kernel_rfl) (by kernel_rfl) (by kernel_rfl) (fun _ _ _ h => h) (Or.inr ⟨by rfl, rfl⟩) (by assumption) ?_
    simp only [List.set_cons_zero, List.set_cons_succ]
    refine take_at (i := 6) (n := 25) (v := undef) rfl rfl (by kernel_rfl) (by kernel_rfl) (by kernel_rfl) (fun _ _ _ h => h) (Or.inr ⟨by rfl, rfl⟩) (by assumption) ?_
    simp only [List.set_cons_zero, List.set_cons_succ]
    refine take_at (i := 7) (n := 26) (v := undef) rfl rfl (by kernel_rfl) (by kernel_rfl) (by kernel_rfl) (fun _ _ _ h => h) (Or.inr ⟨by rfl, rfl⟩) (by assumption) ?_
    simp only [List.set_cons_zero, List.set_cons_succ]
    refine take_at (i := 8) (n := 27) (v := undef) rfl rfl (by kernel_rfl) (by kernel_rfl) (by kernel_rfl) (fun _ _ _ h => h) (Or.inr ⟨by rfl, rfl⟩) (by assumption) ?_
    simp only [List.set_cons_zero, List.set_cons_succ]
    refine take_at (i := 9) (n := 28) (v := undef) rfl rfl (by kernel_rfl) (by kernel_rfl) (by kernel_rfl) (fun _ _ _ h => h) (Or.inr ⟨by rfl, rfl⟩) (by assumption) ?_
    simp only [List.set_cons_zero, List.set_cons_succ]
    refine take_at (i := 10) (n := 29) (v := undef) rfl rfl (by kernel_rfl) (by kernel_rfl) (by kernel_rfl) (fun _ _ _ h => h) (Or.inr ⟨by rfl, rfl⟩) (by assumption) ?_
    simp only [List.set_cons_zero, List.set_cons_succ]
    refine take_at (i := 11) (n := 30) (v := ?_) rfl rfl (by kernel_rfl) (by kernel_rfl) (by kernel_rfl) (fun _ _ _ h => h) (Or.inl ⟨by rfl, ?_⟩) (by assumption) ?_
    rotate_left 1
    · intro wz hSw
      obtain ⟨s0, s1, s2, s3, s4, s5⟩ := hSw
      first | (go_simp; done) | (go_simp; with_reducible rfl)
    simp only [List.set_cons_zero, List.set_cons_succ]
    refine take_at (i := 12) (n := 31) (v := ?_) rfl rfl (by kernel_rfl) (by kernel_rfl) (by kernel_rfl) (fun _ _ _ h => h) (Or.inl ⟨by rfl, ?_⟩) (by assumption) ?_
    rotate_left 1
    · intro wz hSw
      obtain ⟨s0, s1, s2, s3, s4, s5⟩ := hSw
      first | (go_simp; done) | (go_simp; with_reducible rfl)
    simp only [List.set_cons_zero, List.set_cons_succ]
    refine take_at (i := 13) (n := 32) (v := undef) rfl rfl (by kernel_rfl) (by kernel_rfl) (by kernel_rfl) (fun _ _ _ h => h) (Or.inr ⟨by rfl, rfl⟩) (by assumption) ?_
    simp only [List.set_cons_zero, List.set_cons_succ]
    refine take_at (i := 14) (n := 33) (v := undef) rfl rfl (by kernel_rfl) (by kernel_rfl) (by kernel_rfl) (fun _ _ _ h => h) (Or.inr ⟨by rfl, rfl⟩) (by assumption) ?_
    simp only [List.set_cons_zero, List.set_cons_succ]
    refine take_at (i := 15) (n := 34) (v := undef) rfl rfl (by kernel_rfl) (by kernel_rfl) (by kernel_rfl) (fun _ _ _ h => h) (Or.inr ⟨by rfl, rfl⟩) (by assumption) ?_
    simp only [List.set_cons_zero, List.set_cons_succ]
    refine take_at (i := 16) (n := 35) (v := undef) rfl rfl (by kernel_rfl) (by kernel_rfl) (by kernel_rfl) (fun _ _ _ h => h) (Or.inr ⟨by rfl, rfl⟩) (by assumption) ?_
    simp only [List.set_cons_zero, List.set_cons_succ]
    refine take_at (i := 17) (n := 36) (v := undef) rfl rfl (by kernel_rfl) (by kernel_rfl) (by kernel_rfl) (fun _ _ _ h => h) (Or.inr ⟨by rfl, rfl⟩) (by assumption) ?_
    simp only [List.set_cons_zero, List.set_cons_succ]
    refine take_at (i := 18) (n := 37) (v := undef) rfl rfl (by kernel_rfl) (by kernel_rfl) (by kernel_rfl) (fun _ _ _ h => h) (Or.inr ⟨by rfl, rfl⟩) (by assumption) ?_
    simp only [List.set_cons_zero, List.set_cons_succ]
    refine take_at (i := 19) (n := 38) (v := undef) rfl rfl (by kernel_rfl) (by kernel_rfl) (by kernel_rfl) (fun _ _ _ h => h) (Or.inr ⟨by rfl, rfl⟩) (by assumption) ?_
    simp only [List.set_cons_zero, List.set_cons_succ]
    refine take_at (i := 20) (n := 39) (v := ?_) rfl rfl (by kernel_rfl) (by kernel_rfl) (by kernel_rfl) (fun _ _ _ h => h) (Or.inl ⟨by rfl, ?_⟩) (by assumption) ?_
    rotate_left 1
    · intro wz hSw
      obtain ⟨s0, s1, s2, s3, s4, s5⟩ := hSw
      first | (go_simp; done) | (go_simp; with_reducible rfl)
    simp only [List.set_cons_zero, List.set_cons_succ]
    refine wpAnyH_done (by kernel_rfl) ?_ _
    refine NoPanic.normal ?_
    clear hHeld
    go_wp2_with fail
    go_end0
    exact ⟨rfl, w1, cm, th, tv, cv, HP.out.below (Below.refl _ _).drew, HK.out.1, HK.out.2.1, hcl, rfl⟩
end Go.Proofs.YtccoobcggbbciaiGreatDoor
