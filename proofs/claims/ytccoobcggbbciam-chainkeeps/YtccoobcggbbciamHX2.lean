import Derived.Test.YtccoobcggbbciamHW3
import Derived.Test.YtccoobcggbbciamHX0
namespace Go.Proofs.Ytccoobcggbbciam
open Go.ChangeShapes Go.WideShapes Go.ChangeAt Go.RowKit

theorem SW.ranJ {A : Ad} {W w' : World} {jv mv ev : List Value} {s : Sc} {u : Nat} {v : Value} {p : Pc} {r : List Pc} {rr : Ending} (h : SW A W jv mv ev s) (hv : jv[u]? = some v) (hu : u < s.jobs.length) (hr : RunPost W A.gJ u v p r rr w') : rr = .returned (.tuple #[.int .i64 p.cm, .bool (runD (p :: r))]) ∧ ∃ jv2, SW A w' jv2 mv ev { s with jobs := s.jobs.set u (runQ (p :: r)) } := by
  obtain ⟨W1, v', hg, ⟨z, hz⟩, hb, hl, he, hw⟩ := hr
  refine ⟨he, ?_⟩
  rcases hw with ⟨-, rfl⟩ | ⟨-, rfl, rfl⟩
  · have h1 := h.lineJ hv hu hg hz
    have h2 := h1.putJ (q := runQ (p :: r)) hv (by show u < (s.jobs.set u _).length; rw [List.length_set]; exact hu) hl (fun g hg2 => .inl (by rw [← hb]; exact hg2))
    have e : ({ ({ s with jobs := s.jobs.set u ({ p with lf := z } :: r) } : Sc) with jobs := (s.jobs.set u ({ p with lf := z } :: r)).set u (runQ (p :: r)) } : Sc) = { s with jobs := s.jobs.set u (runQ (p :: r)) } := by rw [List.set_set]
    rw [e] at h2
    exact ⟨_, h2⟩
  · exact ⟨_, h.lineJ hv hu hg hl⟩
theorem SW.ranM {A : Ad} {W w' : World} {jv mv ev : List Value} {s : Sc} {u : Nat} {v : Value} {p : Pc} {r : List Pc} {rr : Ending} (h : SW A W jv mv ev s) (hv : mv[u]? = some v) (hu : u < s.mail.length) (hr : RunPost W A.gM u v p r rr w') : rr = .returned (.tuple #[.int .i64 p.cm, .bool (runD (p :: r))]) ∧ ∃ jv2, SW A w' jv jv2 ev { s with mail := s.mail.set u (runQ (p :: r)) } := by
  obtain ⟨W1, v', hg, ⟨z, hz⟩, hb, hl, he, hw⟩ := hr
  refine ⟨he, ?_⟩
  rcases hw with ⟨-, rfl⟩ | ⟨-, rfl, rfl⟩
  · have h1 := h.lineM hv hu hg hz
    have h2 := h1.putM (q := runQ (p :: r)) hv (by show u < (s.mail.set u _).length; rw [List.length_set]; exact hu) hl (fun g hg2 => .inl (by rw [← hb]; exact hg2))
    have e : ({ ({ s with mail := s.mail.set u ({ p with lf := z } :: r) } : Sc) with mail := (s.mail.set u ({ p with lf := z } :: r)).set u (runQ (p :: r)) } : Sc) = { s with mail := s.mail.set u (runQ (p :: r)) } := by rw [List.set_set]
    rw [e] at h2
    exact ⟨_, h2⟩
  · exact ⟨_, h.lineM hv hu hg hl⟩

set_option maxRecDepth 20000 in
set_option maxHeartbeats 8000000 in
theorem done_any (A : Ad) (W : World) (jv mv ev : List Value) (s : Sc) (part cm K : Nat) (now : Int) (hI : Inp A) (hS : SOk A.l A.m K s) (h : SW A W jv mv ev s) (hp : part < A.l.length) (hc : cm < A.m) (hK : K ≤ 890000) : Calls Try.prog 39 #[.pointer (some ⟨A.gs, 0, none⟩), .int .i64 (part : Int), .int .i64 (cm : Int), .int .i64 now] W fun r w' => r = .returned (.tuple #[]) ∧ ∃ jv' mv', SW A w' jv' mv' ev (doneTo A.l A.tk part cm now s A.l.length) := by
  have HI : Hid (Inp A) := hI
  have HSO : Hid (SOk A.l A.m K s) := hS
  have h8 := hI.ok.most
  have h1 := hI.ok.one
  obtain ⟨ad1, cl, hpv, -, hcap, hrow⟩ := hI.pr
  rcases hrow with h9 | ⟨b, o, rfl, hrow⟩
  · rw [h9] at h1; simp at h1
  have HR : Hid (∀ q u, (A.l.flatMap Pa.vals)[q]? = some u → A.w.cell? ⟨b, o + q, none⟩ = some u) := hrow
  have HPV : Hid (A.pv = .slice (some ⟨b, o, none⟩) A.l.length cl) := hpv
  obtain ⟨ve, hve⟩ : ∃ v, ev[cm]? = some v := ⟨_, List.getElem?_eq_getElem (by rw [h.le]; exact hc)⟩
  obtain ⟨ge, ce, ex, rfl, hce, hge⟩ := h.ens cm ve hve
  have hel : (s.ends.getD cm []).length = A.l.length := hS.er cm _ (some_getD (by rw [hS.le]; exact hc))
  have hcl : cm < s.ends.length := by rw [hS.le]; exact hc
  rw [hel] at hve hce
  have H0 : Hid (SW A (W.setCell ⟨ge, part, none⟩ (.int .i64 now)) jv mv ev (doneTo A.l A.tk part cm now s 0)) := h.setEnd hve hcl part now (by rw [hel]; exact hp)
  obtain ⟨gs1, gs2, gs3⟩ := cells_of hge
  have e0 := gs1 part (.int .i64 ((s.ends.getD cm [])[part]'(by rw [hel]; exact hp))) (by rw [List.getElem?_append_left (by rw [List.length_map, hel]; exact hp), List.getElem?_map, List.getElem?_eq_getElem]; rfl)
  generalize (s.ends.getD cm [])[part]'_ = eold at e0
  have ef := gs2 part
  obtain ⟨cs, cf, lgs⟩ := cells_of (l := [_, _, _, _, _, _]) h.sc
  have k5 := cs 5 _ rfl
  have k0 := cs 0 _ rfl
  rw [hpv] at k0
  have ke := (cells_of h.er).1 cm _ hve
  have lgE := heap_lt h.er
  have hpi : (part : Int) < (A.l.length : Int) := by omega
  have hci : (cm : Int) < (A.m : Int) := by omega
  have ng1 : ge ≠ A.gs := ty_ne hge h.sc (by decide)
  have ng2 : ge ≠ A.gE := ty_ne hge h.er (by decide)
  clear hI hS h hpv hrow hve hel hge gs1 gs2 cs cf
  go_enter Try.func39, Try.ntmps39
  go_wp2_with fail
  clear k5 k0 ke lgE ng1 ng2 e0 ef gs3 lgs
  go_loopw [25] (fun iv wr => ∃ k : Nat, k ≤ A.l.length ∧ iv = .int .i64 (k : Int) ∧ Hid (∃ jv' mv', SW A wr jv' mv' ev (doneTo A.l A.tk part cm now s k))) (fun iv _ => A.l.length - (intOf iv).toNat)
  case atStart => exact ⟨0, Nat.zero_le _, rfl, ⟨_, _, H0.out⟩⟩
  case round =>
    obtain ⟨k, hk, rfl, HX⟩ := hrel
    clear H0
    by_cases hkl : k < A.l.length
    rotate_left 1
    · have hke : k = A.l.length := by omega
      subst hke
      have hki : ¬ ((A.l.length : Nat) : Int) < (A.l.length : Int) := by omega
      go_wp2_with fail
      go_end0
      exact ⟨rfl, HX.out⟩
    obtain ⟨jv', mv', hS⟩ := HX.out
    have HS : Hid (SW A wr jv' mv' ev (doneTo A.l A.tk part cm now s k)) := hS
    have HOK : Hid (SOk A.l A.m (K + k) (doneTo A.l A.tk part cm now s k)) := (doneTo_ok HSO.out HI.out.ok hc k hk).1
    obtain ⟨x, hx⟩ : ∃ x, A.l[k]? = some x := ⟨_, List.getElem?_eq_getElem hkl⟩
    obtain ⟨y0, y1, y2, y3, y4, y5, y6⟩ := pa7_at (fun q u hq => below_cell hS.bel (HR.out q u hq)) hx
    have lb := World.block_lt_of_cell? _ _ y0
    have hki : (k : Int) < (A.l.length : Int) := by omega
    have hxd : A.l.getD k paZ = x := getD_some hx
    obtain ⟨xco, xfr, xse, xc, xt, xd, xp⟩ := x
    dsimp only at y0 y1 y2 y3 y4 y5 y6
    have HST : Hid (doneTo A.l A.tk part cm now s (k + 1) = if xfr ≠ (part : Int) then doneTo A.l A.tk part cm now s k else if xse = 0 then addJ A.l A.tk (doneTo A.l A.tk part cm now s k) k cm now else addM A.l (doneTo A.l A.tk part cm now s k) k cm now) := by
      show _ = _
      rw [show doneTo A.l A.tk part cm now s (k + 1) = doneStep A.l A.tk part cm now (doneTo A.l A.tk part cm now s k) k from rfl]
      unfold doneStep
      rw [hxd]
    have HS2 : Hid (SW A (wr.alloc (.cells #[.int .i64 xco, .int .i64 xfr, .int .i64 xse, .int .i64 xc, .int .i64 xt, .int .i64 xd, .int .i64 xp] 35)) jv' mv' ev (doneTo A.l A.tk part cm now s k)) := hS.grow (below_new _ _)
    clear hS HX hx hxd
    by_cases hf : xfr = (part : Int)
    rotate_left 1
    · have hfb : (xfr != (part : Int)) = true := by simpa using hf
      have HN : Hid (∃ jv' mv', SW A (wr.alloc (.cells #[.int .i64 xco, .int .i64 xfr, .int .i64 xse, .int .i64 xc, .int .i64 xt, .int .i64 xd, .int .i64 xp] 35)) jv' mv' ev (doneTo A.l A.tk part cm now s (k + 1))) := by
        refine ⟨jv', mv', ?_⟩
        rw [HST.out, if_pos hf]
        exact HS2.out
      clear hf HST
      go_wp2_with fail
      exact ⟨⟨k + 1, by omega, by simp, HN⟩, by simp [intOf]; omega⟩
    have hfb : (xfr != (part : Int)) = false := by simpa using hf
    by_cases hs : xse = 0
    · have HE : Hid (doneTo A.l A.tk part cm now s (k + 1) = addJ A.l A.tk (doneTo A.l A.tk part cm now s k) k cm now) := by
        show _ = _
        rw [HST.out, if_neg (by simpa using hf), if_pos hs]
      have HC := addJ_any A (wr.alloc (.cells #[.int .i64 xco, .int .i64 xfr, .int .i64 xse, .int .i64 xc, .int .i64 xt, .int .i64 xd, .int .i64 xp] 35)) jv' mv' ev _ k cm (K + k) now HI.out HOK.out HS2.out hkl hc (by omega)
      rw [← HE.out] at HC
      subst hs
      clear hf HST HE
      go_wp2_with (go_at_call 20; refine HC.mono ?_; rintro r w5 ⟨rfl, jv5, h5⟩; have H5 : Hid (∃ jv' mv', SW A w5 jv' mv' ev (doneTo A.l A.tk part cm now s (k + 1))) := ⟨_, _, h5⟩; clear h5 HC)
      exact ⟨⟨k + 1, by omega, by simp, H5⟩, by simp [intOf]; omega⟩
    · have hsb : (xse == 0) = false := by simpa using hs
      have HE : Hid (doneTo A.l A.tk part cm now s (k + 1) = addM A.l (doneTo A.l A.tk part cm now s k) k cm now) := by
        show _ = _
        rw [HST.out, if_neg (by simpa using hf), if_neg hs]
      have HC := addM_any A (wr.alloc (.cells #[.int .i64 xco, .int .i64 xfr, .int .i64 xse, .int .i64 xc, .int .i64 xt, .int .i64 xd, .int .i64 xp] 35)) jv' mv' ev _ k cm (K + k) now HI.out HOK.out HS2.out hkl (by omega)
      rw [← HE.out] at HC
      clear hf HST HE hs
      go_wp2_with (go_at_call 53; refine HC.mono ?_; rintro r w5 ⟨rfl, mv5, h5⟩; have H5 : Hid (∃ jv' mv', SW A w5 jv' mv' ev (doneTo A.l A.tk part cm now s (k + 1))) := ⟨_, _, h5⟩; clear h5 HC)
      exact ⟨⟨k + 1, by omega, by simp, H5⟩, by simp [intOf]; omega⟩
end Go.Proofs.Ytccoobcggbbciam
namespace Go.Proofs.Ytccoobcggbbciam
open Go.ChangeShapes Go.WideShapes Go.ChangeAt Go.RowKit

theorem SOk.mailD {l : List Pa} {m K part : Nat} {s : Sc} (h : SOk l m K s) (hp : part < l.length) : SOk l m K { s with mail := s.mail.set part (runQ (s.mail.getD part [])), un := -1 } :=
  ⟨h.lj, by simp only [List.length_set]; exact h.lm, h.le, h.er, h.pj, (SOk.runM (s := { s with un := -1 }) ⟨h.lj, h.lm, h.le, h.er, h.pj, h.pm, .inl rfl⟩ hp (.inl rfl) (-1) (.inr rfl)).pm, .inl rfl⟩

theorem SW.runcJ {A : Ad} {W : World} {jv mv ev : List Value} {s : Sc} {u K : Nat} {p : Pc} {r : List Pc} (h : SW A W jv mv ev s) (hS : SOk A.l A.m K s) (hu : u < A.l.length) (hq : s.jobs.getD u [] = p :: r) : Calls Try.prog 38 #[.pointer (some ⟨A.gJ, u, none⟩)] W fun rr w' => rr = .returned (.tuple #[.int .i64 (runC (p :: r) : Nat), .bool (runD (p :: r))]) ∧ ∃ jv2, SW A w' jv2 mv ev { s with jobs := s.jobs.set u (runQ (p :: r)) } := by
  obtain ⟨v, hv⟩ : ∃ v, jv[u]? = some v := ⟨_, List.getElem?_eq_getElem (by rw [h.lj]; exact hu)⟩
  have hl := h.ljs u v hv
  rw [hq] at hl
  have hb := (hS.pj u _ (some_getD (d := []) (by rw [hS.lj]; exact hu))).2
  rw [hq] at hb
  have hp := hb p List.mem_cons_self
  refine (run_any W A.gJ u v p r (h.cJ hv).2.1 ((cells_of h.jr).2.1 u) hl (fun e => ?_) hp.2.2.1 hp.2.2.2).mono fun rr w' hr => ?_
  · obtain ⟨c, hc⟩ := hl.ty e
    exact ty_ne hc h.jr (by decide) rfl
  · obtain ⟨e, h2⟩ := h.ranJ hv (by rw [hS.lj]; exact hu) hr
    refine ⟨?_, h2⟩
    rw [e]
    have e2 : ((runC (p :: r) : Nat) : Int) = p.cm := by
      show ((p.cm.toNat : Nat) : Int) = p.cm
      omega
    rw [e2]
theorem SW.runcM {A : Ad} {W : World} {jv mv ev : List Value} {s : Sc} {u K : Nat} {p : Pc} {r : List Pc} (h : SW A W jv mv ev s) (hS : SOk A.l A.m K s) (hu : u < A.l.length) (hq : s.mail.getD u [] = p :: r) : Calls Try.prog 38 #[.pointer (some ⟨A.gM, u, none⟩)] W fun rr w' => rr = .returned (.tuple #[.int .i64 (runC (p :: r) : Nat), .bool (runD (p :: r))]) ∧ ∃ mv2, SW A w' jv mv2 ev { s with mail := s.mail.set u (runQ (p :: r)) } := by
  obtain ⟨v, hv⟩ : ∃ v, mv[u]? = some v := ⟨_, List.getElem?_eq_getElem (by rw [h.lm]; exact hu)⟩
  have hl := h.lms u v hv
  rw [hq] at hl
  have hb := (hS.pm u _ (some_getD (d := []) (by rw [hS.lm]; exact hu))).2
  rw [hq] at hb
  have hp := hb p List.mem_cons_self
  refine (run_any W A.gM u v p r (h.cM hv).2 ((cells_of h.mr).2.1 u) hl (fun e => ?_) hp.2.2.1 hp.2.2.2).mono fun rr w' hr => ?_
  · obtain ⟨c, hc⟩ := hl.ty e
    exact ty_ne hc h.mr (by decide) rfl
  · obtain ⟨e, h2⟩ := h.ranM hv (by rw [hS.lm]; exact hu) hr
    refine ⟨?_, h2⟩
    rw [e]
    have e2 : ((runC (p :: r) : Nat) : Int) = p.cm := by
      show ((p.cm.toNat : Nat) : Int) = p.cm
      omega
    rw [e2]

theorem index4 (f0 f1 f2 f3 z : Int) (k : Nat) (hk : k < 4) (hz : [f0, f1, f2, f3][k]? = some z) (w : World) : (Instr.index 77 (.agg #[.int .i64 f0, .int .i64 f1, .int .i64 f2, .int .i64 f3]) (.int .i64 (k : Int))).run Try.prog w = .ok (.int .i64 z) w := by
  rcases (by omega : k = 0 ∨ k = 1 ∨ k = 2 ∨ k = 3) with rfl | rfl | rfl | rfl <;> (cases hz; kernel_rfl)

set_option maxRecDepth 20000 in
set_option maxHeartbeats 8000000 in
theorem tick_any (A : Ad) (W : World) (jv mv ev : List Value) (s : Sc) (K : Nat) (now : Int) (hI : Inp A) (hS : SOk A.l A.m K s) (h : SW A W jv mv ev s) (hK : K ≤ 880000) (hn0 : 0 ≤ now) (hn1 : now ≤ 20000) : Calls Try.prog 21 #[.pointer (some ⟨A.gs, 0, none⟩), .int .i64 now] W fun r w' => r = .returned (.tuple #[]) ∧ ∃ jv' mv', SW A w' jv' mv' ev (tickF A.l A.tk s now) := by
  have HI : Hid (Inp A) := hI
  have HSO : Hid (SOk A.l A.m K s) := hS
  have h8 := hI.ok.most
  have HF := firsts_any A W jv mv ev s hI h hS.lj
  have HSE : Hid (∀ w1, Below W.heap.size W w1 → Calls Try.prog 37 #[.pointer (some ⟨A.gs, 0, none⟩)] w1 fun r w' => r = .returned (.int .i64 (sentF s)) ∧ SW A w' jv mv ev { s with un := sentF s }) := fun w1 hb => sent_any A w1 jv mv ev s (h.grow hb) hS.lm h8
  obtain ⟨sn, hsn⟩ : ∃ sn, sentF s = sn := ⟨_, rfl⟩
  have HSN : Hid (sentF s = sn) := hsn
  have hsa := sentF_at hS
  rw [hsn] at hsa
  have HSA : Hid (sn = -1 ∨ ∃ u : Nat, sn = u ∧ u < A.l.length ∧ s.mail.getD u [] ≠ []) := hsa
  have hnw : IntKind.i64.wrap (now + 1) = now + 1 := by rw [IntKind.wrap_i64]; omega
  clear h hI hS hsa hsn
  go_enter Try.func21, Try.ntmps21
  go_upto_region 1 with (first
    | (go_at_call 37; refine (HSE.out _ HB1.out).mono ?_; rintro r w2 ⟨rfl, hw2⟩; rw [HSN.out]; have H3 : Hid (SW A (w2.alloc (.cells #[.int .i64 f0, .int .i64 f1, .int .i64 f2, .int .i64 f3] 77)) jv mv ev { s with un := sentF s }) := hw2.grow (below_new _ _); clear hw2)
    | (go_at_call 36; refine HF.mono ?_; rintro r w1 ⟨f0, f1, f2, f3, hfs, rfl, hb1⟩; have HB1 : Hid (Below W.heap.size W w1) := hb1; have HFS : Hid (firstsTo A.l s.jobs A.l.length = [f0, f1, f2, f3]) := hfs; clear hb1 hfs HF))
  obtain ⟨cs, -, lg⟩ := cells_of (l := [_, _, _, _]) (heap_alloc_new w2 (.cells #[.int .i64 f0, .int .i64 f1, .int .i64 f2, .int .i64 f3] 77))
  have c0 := cs 0 _ rfl
  have c1 := cs 1 _ rfl
  have c2 := cs 2 _ rfl
  have c3 := cs 3 _ rfl
  clear cs
  generalize w2.alloc (.cells #[.int .i64 f0, .int .i64 f1, .int .i64 f2, .int .i64 f3] 77) = w3 at *
  generalize w2.heap.size = g4 at *
  have HCO : Hid (∀ k, k ≤ 4 → SOk A.l A.m (K + 8 * k) (coresTo A.l A.tk now [f0, f1, f2, f3] (Sc.mk s.jobs s.mail (sentF s) s.ends) k) ∧ (coresTo A.l A.tk now [f0, f1, f2, f3] (Sc.mk s.jobs s.mail (sentF s) s.ends) k).un = sentF s ∧ Gr2 s.mail (coresTo A.l A.tk now [f0, f1, f2, f3] (Sc.mk s.jobs s.mail (sentF s) s.ends) k).mail ∧ Fst4 A.l [f0, f1, f2, f3] (coresTo A.l A.tk now [f0, f1, f2, f3] (Sc.mk s.jobs s.mail (sentF s) s.ends) k).jobs k) := by
    show ∀ k, _
    intro k hk
    have h9 := coresTo_ok (tk := A.tk) (now := now) (fs := [f0, f1, f2, f3]) HSO.out.sent HI.out.ok rfl (by rw [← HFS.out]; exact Fst4.start A.l s.jobs) k hk
    exact h9
  have HTF : Hid (tickF A.l A.tk s now = mailStep A.l A.tk now (coresTo A.l A.tk now [f0, f1, f2, f3] (Sc.mk s.jobs s.mail (sentF s) s.ends) 4) sn) := by
    show _ = _
    unfold tickF
    rw [HFS.out, HSN.out]
  go_wp2_with fail
  clear c0 c1 c2 c3 lg
  go_loopw [17] (fun iv wr => ∃ k : Nat, k ≤ 4 ∧ iv = .int .i64 (k : Int) ∧ Hid (∃ jv' mv', SW A wr jv' mv' ev (coresTo A.l A.tk now [f0, f1, f2, f3] (Sc.mk s.jobs s.mail (sentF s) s.ends) k))) (fun iv _ => 4 - (intOf iv).toNat)
  case atStart => exact ⟨0, by omega, rfl, ⟨_, _, H3.out⟩⟩
  case round =>
    obtain ⟨k, hk, rfl, HX⟩ := hrel
    clear H3
    by_cases hk4 : k < 4
    · have hki : (k : Int) < 4 := by omega
      obtain ⟨jv', mv', hS⟩ := HX.out
      have HS : Hid (SW A wr jv' mv' ev (coresTo A.l A.tk now [f0, f1, f2, f3] (Sc.mk s.jobs s.mail (sentF s) s.ends) k)) := hS
      clear hS HX
      obtain ⟨z, hz⟩ : ∃ z, [f0, f1, f2, f3][k]? = some z := ⟨_, List.getElem?_eq_getElem (by simpa using hk4)⟩
      have hix := index4 f0 f1 f2 f3 z k hk4 hz
      obtain ⟨o1, -, -, o4⟩ := HCO.out k (by omega)
      have hfz := o4 k z (Nat.le_refl _) hz
      have HOK : Hid (SOk A.l A.m (K + 8 * k) (coresTo A.l A.tk now [f0, f1, f2, f3] (Sc.mk s.jobs s.mail (sentF s) s.ends) k)) := o1
      have HST : Hid ((coresTo A.l A.tk now [f0, f1, f2, f3] (Sc.mk s.jobs s.mail (sentF s) s.ends) (k + 1)) = coreStep A.l A.tk now (coresTo A.l A.tk now [f0, f1, f2, f3] (Sc.mk s.jobs s.mail (sentF s) s.ends) k) z) := by
        show _ = _
        rw [show (coresTo A.l A.tk now [f0, f1, f2, f3] (Sc.mk s.jobs s.mail (sentF s) s.ends) (k + 1)) = coreStep A.l A.tk now (coresTo A.l A.tk now [f0, f1, f2, f3] (Sc.mk s.jobs s.mail (sentF s) s.ends) k) ([f0, f1, f2, f3].getD k 0) from rfl, getD_some hz]
      clear hz o1 o4
      rcases hfz with rfl | ⟨u, rfl, hu, hne, -⟩
      · have HN : Hid (∃ jv' mv', SW A wr jv' mv' ev (coresTo A.l A.tk now [f0, f1, f2, f3] (Sc.mk s.jobs s.mail (sentF s) s.ends) (k + 1))) := by
          refine ⟨jv', mv', ?_⟩
          rw [HST.out]
          unfold coreStep
          rw [if_pos rfl]
          exact HS.out
        go_wp2_with fail
        exact ⟨⟨k + 1, by omega, by simp, HN⟩, by simp [intOf]; omega⟩
      · have hzb : ((u : Int) == -1) = false := by simp
        obtain ⟨p, r, hq⟩ := List.exists_cons_of_ne_nil hne
        have HC := HS.out.runcJ HOK.out hu hq
        have hcm : runC (p :: r) < A.m := by
          have h9 := HOK.out.pj u _ (some_getD (d := []) (by rw [HOK.out.lj]; exact hu))
          rw [hq] at h9
          exact runC_lt (by simp) h9
        have HJ : Hid (SOk A.l A.m (K + 8 * k) { (coresTo A.l A.tk now [f0, f1, f2, f3] (Sc.mk s.jobs s.mail (sentF s) s.ends) k) with jobs := (coresTo A.l A.tk now [f0, f1, f2, f3] (Sc.mk s.jobs s.mail (sentF s) s.ends) k).jobs.set u (runQ (p :: r)) }) := by
          have h9 := HOK.out.runJ hu
          rw [hq] at h9
          exact h9
        have HST2 : Hid ((coresTo A.l A.tk now [f0, f1, f2, f3] (Sc.mk s.jobs s.mail (sentF s) s.ends) (k + 1)) = if runD (p :: r) = true then doneTo A.l A.tk u (runC (p :: r)) (now + 1) { (coresTo A.l A.tk now [f0, f1, f2, f3] (Sc.mk s.jobs s.mail (sentF s) s.ends) k) with jobs := (coresTo A.l A.tk now [f0, f1, f2, f3] (Sc.mk s.jobs s.mail (sentF s) s.ends) k).jobs.set u (runQ (p :: r)) } A.l.length else { (coresTo A.l A.tk now [f0, f1, f2, f3] (Sc.mk s.jobs s.mail (sentF s) s.ends) k) with jobs := (coresTo A.l A.tk now [f0, f1, f2, f3] (Sc.mk s.jobs s.mail (sentF s) s.ends) k).jobs.set u (runQ (p :: r)) }) := by
          show _ = _
          rw [HST.out]
          unfold coreStep
          rw [if_neg (by omega), Int.toNat_natCast, hq]
        have k2 := HS.out.cJ0
        have lgs := heap_lt HS.out.sc
        have lgJ := heap_lt HS.out.jr
        have hui : (u : Int) < (A.l.length : Int) := by omega
        clear HST hq hne
        generalize (coresTo A.l A.tk now [f0, f1, f2, f3] (Sc.mk s.jobs s.mail (sentF s) s.ends) k) = sk at *
        generalize runC (p :: r) = cm at *
        generalize hd : runD (p :: r) = d at *
        generalize runQ (p :: r) = q2 at *
        clear hd
        rcases d with _ | _
        · have HE : Hid ((coresTo A.l A.tk now [f0, f1, f2, f3] (Sc.mk s.jobs s.mail (sentF s) s.ends) (k + 1)) = { sk with jobs := sk.jobs.set u q2 }) := by
            show _ = _
            rw [HST2.out, if_neg (by simp)]
          clear HST2
          go_wp2_with (go_at_call 38; refine HC.mono ?_; rintro r w5 ⟨rfl, jv5, h5⟩; have H5 : Hid (∃ jv' mv', SW A w5 jv' mv' ev (coresTo A.l A.tk now [f0, f1, f2, f3] (Sc.mk s.jobs s.mail (sentF s) s.ends) (k + 1))) := ⟨jv5, mv', (by rw [HE.out]; exact h5)⟩; clear h5 HC)
          exact ⟨⟨k + 1, by omega, by simp, H5⟩, by simp [intOf]; omega⟩
        · have HE : Hid ((coresTo A.l A.tk now [f0, f1, f2, f3] (Sc.mk s.jobs s.mail (sentF s) s.ends) (k + 1)) = doneTo A.l A.tk u cm (now + 1) { sk with jobs := sk.jobs.set u q2 } A.l.length) := by
            show _ = _
            rw [HST2.out, if_pos rfl]
          clear HST2
          go_wp2_with (first
            | (go_at_call 39; refine (done_any A _ _ _ ev _ u cm _ (now + 1) HI.out HJ.out H5.out hu hcm (by omega)).mono ?_; rintro r w6 ⟨rfl, jv6, mv6, h6⟩; have H6 : Hid (∃ jv' mv', SW A w6 jv' mv' ev (coresTo A.l A.tk now [f0, f1, f2, f3] (Sc.mk s.jobs s.mail (sentF s) s.ends) (k + 1))) := ⟨jv6, mv6, (by rw [HE.out]; exact h6)⟩; clear h6)
            | (go_at_call 38; refine HC.mono ?_; rintro r w5 ⟨rfl, jv5, h5⟩; have H5 : Hid (SW A w5 jv5 mv' ev { sk with jobs := sk.jobs.set u q2 }) := h5; clear h5 HC))
          exact ⟨⟨k + 1, by omega, by simp, H6⟩, by simp [intOf]; omega⟩
    have hke : k = 4 := by omega
    subst hke
    rw [show ((4 : Nat) : Int) = (4 : Int) from rfl]
    obtain ⟨jv', mv', hS⟩ := HX.out
    have HS : Hid (SW A wr jv' mv' ev (coresTo A.l A.tk now [f0, f1, f2, f3] (Sc.mk s.jobs s.mail (sentF s) s.ends) 4)) := hS
    obtain ⟨o1, o2, o3, -⟩ := HCO.out 4 (Nat.le_refl _)
    have HOK : Hid (SOk A.l A.m (K + 32) (coresTo A.l A.tk now [f0, f1, f2, f3] (Sc.mk s.jobs s.mail (sentF s) s.ends) 4)) := o1
    have HG : Hid (Gr2 s.mail (coresTo A.l A.tk now [f0, f1, f2, f3] (Sc.mk s.jobs s.mail (sentF s) s.ends) 4).mail) := o3
    clear hS HX o1 o2 o3 HCO
    generalize (coresTo A.l A.tk now [f0, f1, f2, f3] (Sc.mk s.jobs s.mail (sentF s) s.ends) 4) = s4 at *
    rcases HSA.out with hm1 | ⟨u, hu1, hu, hne⟩
    · have HE : Hid (tickF A.l A.tk s now = s4) := by
        show _ = _
        rw [HTF.out, hm1]
        unfold mailStep
        rw [if_pos rfl]
      clear HTF HSA HSN
      subst hm1
      go_wp2_with fail
      go_returns
      exact ⟨rfl, jv', mv', by rw [HE.out]; exact HS.out⟩
    · have hne4 := HG.out u hne
      obtain ⟨p, r, hq⟩ := List.exists_cons_of_ne_nil hne4
      have HC := HS.out.runcM HOK.out hu hq
      have hcm : runC (p :: r) < A.m := by
        have h9 := HOK.out.pm u _ (some_getD (d := []) (by rw [HOK.out.lm]; exact hu))
        rw [hq] at h9
        exact runC_lt (by simp) h9
      have HMD : Hid (SOk A.l A.m (K + 32) { s4 with mail := s4.mail.set u (runQ (p :: r)), un := -1 }) := by
        have h9 := HOK.out.mailD hu
        rw [hq] at h9
        exact h9
      have HTF2 : Hid (tickF A.l A.tk s now = if runD (p :: r) = true then addJ A.l A.tk { s4 with mail := s4.mail.set u (runQ (p :: r)), un := -1 } u (runC (p :: r)) (now + 1) else { s4 with mail := s4.mail.set u (runQ (p :: r)) }) := by
        show _ = _
        rw [HTF.out, hu1]
        unfold mailStep
        rw [if_neg (by omega), Int.toNat_natCast, hq]
      have k3 := HS.out.cM0
      have lgs := heap_lt HS.out.sc
      have lgM := heap_lt HS.out.mr
      have hui : (u : Int) < (A.l.length : Int) := by omega
      clear HTF HSA hne hne4 hq HSN
      subst hu1
      generalize runC (p :: r) = cm at *
      generalize hd : runD (p :: r) = d at *
      generalize runQ (p :: r) = q2 at *
      clear hd
      have hzb : ((u : Int) == -1) = false := by simp
      rcases d with _ | _
      · have HE : Hid (tickF A.l A.tk s now = { s4 with mail := s4.mail.set u q2 }) := by
          show _ = _
          rw [HTF2.out, if_neg (by simp)]
        clear HTF2
        go_wp2_with (go_at_call 38; refine HC.mono ?_; rintro r w5 ⟨rfl, mv5, h5⟩; have H5 : Hid (SW A w5 jv' mv5 ev { s4 with mail := s4.mail.set u q2 }) := h5; clear h5 HC)
        go_end0
        exact ⟨rfl, jv', mv5, by rw [HE.out]; exact H5.out⟩
      · have HE : Hid (tickF A.l A.tk s now = addJ A.l A.tk { s4 with mail := s4.mail.set u q2, un := -1 } u cm (now + 1)) := by
          show _ = _
          rw [HTF2.out, if_pos rfl]
        clear HTF2
        go_wp2_with (first
          | (go_at_call 20; refine (addJ_any A _ _ _ ev _ u cm _ (now + 1) HI.out HMD.out (H5.out.setUn (-1)) hu hcm (by omega)).mono ?_; rintro r w6 ⟨rfl, jv6, h6⟩; have H6 : Hid (∃ jv', SW A w6 jv' mv5 ev (addJ A.l A.tk { s4 with mail := s4.mail.set u q2, un := -1 } u cm (now + 1))) := ⟨_, h6⟩; clear h6)
          | (go_at_call 38; refine HC.mono ?_; rintro r w5 ⟨rfl, mv5, h5⟩; have H5 : Hid (SW A w5 jv' mv5 ev { s4 with mail := s4.mail.set u q2 }) := h5; obtain ⟨ts, tf, tl⟩ := cells_of (l := [_, _, _, _, _, _]) h5.sc; have t4 := ts 4 _ rfl; have tf4 := tf 4; clear h5 HC ts tf))
        go_end0
        obtain ⟨jv6, h6⟩ := H6.out
        exact ⟨rfl, jv6, mv5, by rw [HE.out]; exact h6⟩
end Go.Proofs.Ytccoobcggbbciam
