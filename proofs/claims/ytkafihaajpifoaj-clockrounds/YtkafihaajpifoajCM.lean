import Derived.Test.YtkafihaajpifoajCB
import Derived.Test.YtkafihaajpifoajCT
namespace Go.Proofs.Ytkafihaajpifoaj
open Go.ChangeShapes Go.WideShapes Go.ChangeAt Go.RowKit Go.Sort

theorem MiddleOf_ends {w : World} {a : Act} {x y : Value} (h1 : a.tmps[4]?.getD undef = x) (h2 : a.tmps[5]?.getD undef = y) : (results Try.f19 a.tmps).run Try.prog w = .ok (.tuple #[x, y]) w := by
  simp [results, Try.results19, go_sem, h1, h2]

theorem copyNu_own (W : World) (l : List Int) (ad : Option Addr) (c : Nat) (h0 : l.length ≠ 0) (hb : l.length ≤ 100000) (hv : RowSl nuV W l (.slice ad l.length c)) :
    ∃ u W', (Builtin.append_ #[24, 24] 24 #[.slice (some ⟨W.heap.size, 0, none⟩) 0 0, .slice ad l.length c]).run Try.prog (W.alloc (.cells #[] 3)) = .ok u W' ∧ W'.ownsRow W.heap.size 3 1 u l.length (l.flatMap nuV) ∧ Below W.heap.size W W' := by
  obtain ⟨i0, hi0, hz0, hz1, hz2⟩ := info_parts infoNu
  have hown : (W.alloc (.cells #[] 3)).ownsRow W.heap.size 3 1 (.slice (some ⟨W.heap.size, 0, none⟩) 0 0) 0 [] := ⟨rfl, .inr ⟨W.heap.size, 0, #[], rfl, Nat.le_refl _, heap_alloc_new _ _, Nat.le_refl _, by unfold maxLen; omega, rfl, rfl⟩⟩
  obtain ⟨ad', c', e, hnil, hcap, hrow⟩ := hv.below (below_new W (.cells #[] 3))
  cases e
  cases ad with
  | none => exact absurd (hnil rfl).1 h0
  | some a =>
    obtain ⟨u, W', hrun, ho, hg, -, hu⟩ := run_append_own_at (P := Try.prog) (w := W.alloc (.cells #[] 3)) W.heap.size 24 24 3 i0 _ 1 8 Try.underlying24 hi0 hz0 hz1 hz2 rfl (by decide) _ 0 [] hown a l.length c (l.flatMap nuV) (flat_length nuV 1 nuV_len l) (fun j u hj => by
      rcases hrow with h | ⟨b, o, h2, h3⟩
      · subst h; simp at hj
      · cases h2
        rw [Addr.add_lit]
        exact h3 j u hj) (fun u hu => flatOneNu hu) (by unfold maxLen; omega) (by omega) (by simp)
    rw [Nat.zero_add, List.nil_append] at ho
    exact ⟨u, W', hrun, ho, (below_new _ _).trans ((Below.refl _ _).grown hg (by simp) (by intro k hk; cases hk; exact Nat.le_refl _))⟩

theorem half_even {s : Int} (h : ¬ (s.tmod 2 ≠ 0 ∧ s < 0)) : s.tdiv 2 = s / 2 := by
  by_cases h0 : 0 ≤ s
  · exact Int.tdiv_eq_ediv_of_nonneg h0
  · have h1 : s.tmod 2 = 0 := Classical.byContradiction fun e => h ⟨e, by omega⟩
    exact Int.tdiv_eq_ediv_of_dvd (Int.dvd_of_tmod_eq_zero h1)
theorem half_odd {s : Int} (h : s.tmod 2 ≠ 0) : (s - 1).tdiv 2 = s / 2 := by
  have hs : ¬ (2 : Int) ∣ s := fun hd => h (Int.tmod_eq_zero_of_dvd hd)
  have h2 : (2 : Int) ∣ s - 1 := by omega
  rw [Int.tdiv_eq_ediv_of_dvd h2]
  omega

set_option maxRecDepth 20000 in
set_option maxHeartbeats 4000000 in
theorem MiddleOf_any (w : World) (l : List Int) (f : Int) (v : Value) (hv : RowSl nuV w l v) :
    Calls Try.prog 19 #[v, .int .i64 f] w fun r w' => r = .returned (.tuple #[.int .i64 (midF l f).1, .int .i64 (midF l f).2]) ∧ Below w.heap.size w w' := by
  obtain ⟨ad, c, rfl⟩ := hv.len
  by_cases h1 : l.length = 0 ∨ 10 < l.length
  · have e : midF l f = (0, 2) := by rw [midF, if_pos h1]
    rw [e]
    clear hv
    by_cases h0 : l.length = 0
    · rw [h0]
      go_enter Try.func19, Try.ntmps19
      go_wp2_with fail
      refine bodyPost_ret (MiddleOf_ends rfl rfl) rfl ?_
      exact ⟨rfl, Below.refl _ _⟩
    · have fa : ((l.length : Int) == 0) = false := beq_eq_false_iff_ne.2 (by omega)
      have fa' : decide ((l.length : Int) = 0) = false := decide_eq_false (by omega)
      have fb : decide ((10 : Int) < (l.length : Int)) = true := by simp; omega
      go_enter Try.func19, Try.ntmps19
      go_wp2_with fail
      refine bodyPost_ret (MiddleOf_ends rfl rfl) rfl ?_
      exact ⟨rfl, Below.refl _ _⟩
  have fa : ((l.length : Int) == 0) = false := beq_eq_false_iff_ne.2 (by omega)
  have fa' : decide ((l.length : Int) = 0) = false := decide_eq_false (by omega)
  have fb : decide ((10 : Int) < (l.length : Int)) = false := by simp; omega
  have HR : Hid (RowSl nuV w l (.slice ad l.length c) ∧ ¬ (l.length = 0 ∨ 10 < l.length)) := ⟨hv, h1⟩
  have hl10 : l.length ≤ 10 := by omega
  have hl0 : 0 < l.length := by omega
  generalize ez : midF l f = z
  have EZ : Hid (midF l f = z) := ez
  obtain ⟨z1, z2⟩ := z
  clear hv ez h1
  go_enter Try.func19, Try.ntmps19
  go_wp2_with fail
  go_loopw [20] (fun i wr => ∃ j : Nat, j ≤ l.length ∧ i = .int .i64 j ∧ Below w.heap.size w wr ∧ Hid (idxI (fun n => !nearB n) (l.drop j) j = idxI (fun n => !nearB n) l 0)) (fun i _ => l.length - (intOf i).toNat)
  case atStart => exact ⟨0, Nat.zero_le _, rfl, Below.refl _ _, rfl⟩
  case round =>
    obtain ⟨j, hj, rfl, hb, HQ⟩ := hrel
    have HB : Hid (Below w.heap.size w wr) := hb
    by_cases hjl : j < l.length
    · obtain ⟨x, hx, hd⟩ := drop_at hjl
      obtain ⟨ad', c', he, -, hcap, hrow⟩ := HR.out.1.below hb
      cases he
      rcases hrow with h | ⟨b, o, rfl, hrow⟩
      · rw [h] at hjl; simp at hjl
      have y0 := nu_at hrow hx
      have lb : b < wr.heap.size := World.block_lt_of_cell? _ _ y0
      have hji : (j : Int) < (l.length : Int) := by omega
      have hac := HQ.out
      rw [hd, idxI] at hac
      clear hd hrow hx hb HQ
      by_cases p1 : x < -1099511627776
      · have hp : (!nearB x) = true := by simp [nearB, within]; omega
        rw [if_pos hp] at hac
        have HE : Hid ((z1, z2) = (0, 3)) := by show _ = _; rw [← EZ.out, midF, if_neg HR.out.2, if_pos (by rw [← hac]; omega)]
        have d1 : decide (x < -1099511627776) = true := by simp [p1]
        clear hac hp EZ
        cases HE.out
        go_wp2_with fail
        refine bodyPost_ret (MiddleOf_ends rfl rfl) rfl ?_
        exact ⟨rfl, HB.out⟩
      have d1 : decide (x < -1099511627776) = false := by simp; omega
      by_cases p2 : 1099511627776 < x
      · have hp : (!nearB x) = true := by simp [nearB, within]; omega
        rw [if_pos hp] at hac
        have HE : Hid ((z1, z2) = (0, 3)) := by show _ = _; rw [← EZ.out, midF, if_neg HR.out.2, if_pos (by rw [← hac]; omega)]
        have d2 : decide (1099511627776 < x) = true := by simp [p2]
        clear hac hp EZ
        cases HE.out
        go_wp2_with fail
        refine bodyPost_ret (MiddleOf_ends rfl rfl) rfl ?_
        exact ⟨rfl, HB.out⟩
      have d2 : decide (1099511627776 < x) = false := by simp; omega
      have hp : (!nearB x) = false := by simp [nearB, within]; omega
      rw [if_neg (by rw [hp]; decide)] at hac
      have HE : Hid (idxI (fun n => !nearB n) (l.drop (j + 1)) (j + 1) = idxI (fun n => !nearB n) l 0) := hac
      clear hac hp
      go_wp2_with fail
      exact ⟨⟨j + 1, by omega, by simp, HB.out, HE⟩, by simp [intOf]; omega⟩
    · have hje : j = l.length := by omega
      subst hje
      have h2 : ¬ 0 ≤ idxI (fun n => !nearB n) l 0 := by
        have := HQ.out
        rw [List.drop_length, idxI] at this
        omega
      have H2 : Hid (¬ 0 ≤ idxI (fun n => !nearB n) l 0) := h2
      clear HQ h2 hb
      by_cases p1 : f < 0
      · have d1 : decide (f < 0) = true := by simp [p1]
        have HE : Hid ((z1, z2) = (0, 13)) := by show _ = _; rw [← EZ.out, midF, if_neg HR.out.2, if_neg H2.out, if_pos (.inl p1)]
        clear EZ
        cases HE.out
        go_wp2_with fail
        refine bodyPost_ret (MiddleOf_ends rfl rfl) rfl ?_
        exact ⟨rfl, HB.out⟩
      have d1 : decide (f < 0) = false := by simp; omega
      by_cases p2 : 10 < f
      · have d2 : decide (10 < f) = true := by simp [p2]
        have HE : Hid ((z1, z2) = (0, 13)) := by show _ = _; rw [← EZ.out, midF, if_neg HR.out.2, if_neg H2.out, if_pos (.inr (by omega))]
        clear EZ
        cases HE.out
        go_wp2_with fail
        refine bodyPost_ret (MiddleOf_ends rfl rfl) rfl ?_
        exact ⟨rfl, HB.out⟩
      have d2 : decide (10 < f) = false := by simp; omega
      have q1 : IntKind.i64.wrap (3 * f) = 3 * f := by rw [IntKind.wrap_i64]; omega
      by_cases p3 : (l.length : Int) ≤ 3 * f
      · have d3 : decide ((l.length : Int) ≤ 3 * f) = true := by simp [p3]
        have HE : Hid ((z1, z2) = (0, 13)) := by show _ = _; rw [← EZ.out, midF, if_neg HR.out.2, if_neg H2.out, if_pos (.inr (by omega))]
        clear EZ
        cases HE.out
        go_wp2_with fail
        refine bodyPost_ret (MiddleOf_ends rfl rfl) rfl ?_
        exact ⟨rfl, HB.out⟩
      have d3 : decide ((l.length : Int) ≤ 3 * f) = false := by simp; omega
      obtain ⟨fn, rfl⟩ : ∃ fn : Nat, f = (fn : Int) := ⟨f.toNat, by omega⟩
      have hfl : fn < l.length := by omega
      have hz : (z1, z2) = (((srt l).getD fn 0 + (srt l).getD (l.length - 1 - fn) 0) / 2, 0) := by rw [← EZ.out, midF, if_neg HR.out.2, if_neg H2.out, if_neg (by omega), Int.toNat_natCast]
      clear EZ
      have hx : (srt l)[fn]? = some ((srt l).getD fn 0) := by rw [List.getD_eq_getElem?_getD, List.getElem?_eq_getElem (by rw [srt_len]; omega)]; rfl
      have hy : (srt l)[l.length - 1 - fn]? = some ((srt l).getD (l.length - 1 - fn) 0) := by rw [List.getD_eq_getElem?_getD, List.getElem?_eq_getElem (by rw [srt_len]; omega)]; rfl
      have bx := srt_near H2.out fn
      have by' := srt_near H2.out (l.length - 1 - fn)
      obtain ⟨x, hxe⟩ : ∃ x, (srt l).getD fn 0 = x := ⟨_, rfl⟩
      obtain ⟨y, hye⟩ : ∃ y, (srt l).getD (l.length - 1 - fn) 0 = y := ⟨_, rfl⟩
      rw [hxe, hye] at hz
      have HZ : Hid ((z1, z2) = ((x + y) / 2, 0)) := hz
      clear hz
      rw [hxe] at hx bx
      rw [hye] at hy by'
      clear hxe hye
      have hm : ∃ m : Nat, l.length - 1 - fn = m := ⟨_, rfl⟩
      obtain ⟨m, hm⟩ := hm
      rw [hm] at hy
      obtain ⟨hi, hhi⟩ : ∃ hi : Nat, hi + fn = l.length := ⟨l.length - fn, by omega⟩
      have q4 : IntKind.i64.wrap ((l.length : Int) - (fn : Int)) = (hi : Int) := by rw [IntKind.wrap_i64]; omega
      have q5 : IntKind.i64.wrap (x + y) = x + y := by rw [IntKind.wrap_i64]; omega
      have q6 : fn < hi := by omega
      have q7 : hi ≤ l.length := by omega
      obtain ⟨u3, w3, hrun, ho3, hb3⟩ := copyNu_own wr l ad c (by omega) (by omega) (HR.out.1.below HB.out)
      obtain ⟨g, cap, rfl, hcap, HSo⟩ := sorted_cells ints_any w3 wr.heap.size l u3 ho3 (by omega) (by omega)
      have H1 : Hid (_ = _) := hrun
      have H3 : Hid (Below w.heap.size w w3 ∧ w.heap.size ≤ wr.heap.size ∧ (srt l)[fn]? = some x ∧ (srt l)[m]? = some y) := ⟨below_seq HB.out hb3, HB.out.size, hx, hy⟩
      clear hrun ho3 hb3 hx hy
      go_wp2_with (first | (at_builtin; refine append_known rfl (.tmp 44) (.tmp 45) 24 rfl rfl rfl H1.out ?_) | (go_at_call 32; refine HSo.mono ?_; rintro r w4 ⟨rfl, hc4, hb4⟩; have H4 : Hid (Below w.heap.size w w4) := H3.out.1.trans (hb4.mono H3.out.2.1); have k0 := hc4 _ _ H3.out.2.2.1; have k1 := hc4 _ _ H3.out.2.2.2; clear hc4 hb4 HSo H3))
      generalize hn2 : hi - fn = n2 at *
      generalize cap - fn = cap2 at *
      obtain ⟨p, hp⟩ : ∃ p : Nat, n2 = p + 1 := ⟨n2 - 1, by omega⟩
      have hmp : m = fn + p := by omega
      subst hmp
      have q8 : IntKind.i64.wrap ((n2 : Int) - 1) = (p : Int) := by rw [IntKind.wrap_i64]; omega
      have q9 : (p : Int) < (n2 : Int) := by omega
      have q10 : (0 : Int) < (n2 : Int) := by omega
      have q11 : 0 < n2 := by omega
      have q12 : p < n2 := by omega
      clear hp hn2
      refine wp_region_noPanic ?_
      refine wp_region_held_drew (S := fun w' => w'.cell? ⟨g, fn, none⟩ = some (.int .i64 x) ∧ w'.cell? ⟨g, fn + p, none⟩ = some (.int .i64 y)) (by kernel_rfl) ⟨by go_simp, by go_simp⟩ (fun hHeld => ?_)
      refine take_at (i := 0) (n := 56) (v := ?_) rfl rfl (by kernel_rfl) (by kernel_rfl) (by kernel_rfl) (fun _ _ _ h => h) (Or.inl ⟨by rfl, ?_⟩) (by assumption) ?_
      rotate_left 1
      · intro wz hSw
        obtain ⟨k0, k1⟩ := hSw
        first | (go_simp; done) | (go_simp; with_reducible rfl)
      simp only [List.set_cons_zero, List.set_cons_succ]
      refine take_at (i := 1) (n := 57) (v := ?_) rfl rfl (by kernel_rfl) (by kernel_rfl) (by kernel_rfl) (fun _ _ _ h => h) (Or.inl ⟨by rfl, ?_⟩) (by assumption) ?_
      rotate_left 1
      · intro wz hSw
        obtain ⟨k0, k1⟩ := hSw
        first | (go_simp; done) | (go_simp; with_reducible rfl)
      simp only [List.set_cons_zero, List.set_cons_succ]
      refine take_at (i := 2) (n := 58) (v := ?_) rfl rfl (by kernel_rfl) (by kernel_rfl) (by kernel_rfl) (fun _ _ _ h => h) (Or.inl ⟨by rfl, ?_⟩) (by assumption) ?_
      rotate_left 1
      · intro wz hSw
        obtain ⟨k0, k1⟩ := hSw
        first | (go_simp; done) | (go_simp; with_reducible rfl)
      simp only [List.set_cons_zero, List.set_cons_succ]
      refine take_at (i := 3) (n := 59) (v := ?_) rfl rfl (by kernel_rfl) (by kernel_rfl) (by kernel_rfl) (fun _ _ _ h => h) (Or.inl ⟨by rfl, ?_⟩) (by assumption) ?_
      rotate_left 1
      · intro wz hSw
        obtain ⟨k0, k1⟩ := hSw
        first | (go_simp; done) | (go_simp; with_reducible rfl)
      simp only [List.set_cons_zero, List.set_cons_succ]
      refine take_at (i := 4) (n := 60) (v := ?_) rfl rfl (by kernel_rfl) (by kernel_rfl) (by kernel_rfl) (fun _ _ _ h => h) (Or.inl ⟨by rfl, ?_⟩) (by assumption) ?_
      rotate_left 1
      · intro wz hSw
        obtain ⟨k0, k1⟩ := hSw
        first | (go_simp; done) | (go_simp; with_reducible rfl)
      simp only [List.set_cons_zero, List.set_cons_succ]
      refine take_at (i := 5) (n := 61) (v := ?_) rfl rfl (by kernel_rfl) (by kernel_rfl) (by kernel_rfl) (fun _ _ _ h => h) (Or.inl ⟨by rfl, ?_⟩) (by assumption) ?_
      rotate_left 1
      · intro wz hSw
        obtain ⟨k0, k1⟩ := hSw
        first | (go_simp; done) | (go_simp; with_reducible rfl)
      simp only [List.set_cons_zero, List.set_cons_succ]
      refine take_at (i := 6) (n := 62) (v := ?_) rfl rfl (by kernel_rfl) (by kernel_rfl) (by kernel_rfl) (fun _ _ _ h => h) (Or.inl ⟨by rfl, ?_⟩) (by assumption) ?_
      rotate_left 1
      · intro wz hSw
        obtain ⟨k0, k1⟩ := hSw
        first | (go_simp; done) | (go_simp; with_reducible rfl)
      simp only [List.set_cons_zero, List.set_cons_succ]
      refine take_at (i := 7) (n := 63) (v := ?_) rfl rfl (by kernel_rfl) (by kernel_rfl) (by kernel_rfl) (fun _ _ _ h => h) (Or.inl ⟨by rfl, ?_⟩) (by assumption) ?_
      rotate_left 1
      · intro wz hSw
        obtain ⟨k0, k1⟩ := hSw
        first | (go_simp; done) | (go_simp; with_reducible rfl)
      simp only [List.set_cons_zero, List.set_cons_succ]
      refine take_at (i := 8) (n := 64) (v := ?_) rfl rfl (by kernel_rfl) (by kernel_rfl) (by kernel_rfl) (fun _ _ _ h => h) (Or.inl ⟨by rfl, ?_⟩) (by assumption) ?_
      rotate_left 1
      · intro wz hSw
        obtain ⟨k0, k1⟩ := hSw
        first | (go_simp; done) | (go_simp; with_reducible rfl)
      simp only [List.set_cons_zero, List.set_cons_succ]
      refine take_at (i := 9) (n := 65) (v := ?_) rfl rfl (by kernel_rfl) (by kernel_rfl) (by kernel_rfl) (fun _ _ _ h => h) (Or.inl ⟨by rfl, ?_⟩) (by assumption) ?_
      rotate_left 1
      · intro wz hSw
        obtain ⟨k0, k1⟩ := hSw
        first | (go_simp; done) | (go_simp; with_reducible rfl)
      simp only [List.set_cons_zero, List.set_cons_succ]
      refine take_at (i := 10) (n := 9) (v := ?_) rfl rfl (by kernel_rfl) (by kernel_rfl) (by kernel_rfl) (fun _ _ _ h => h) (Or.inl ⟨by rfl, ?_⟩) (by assumption) ?_
      rotate_left 1
      · intro wz hSw
        obtain ⟨k0, k1⟩ := hSw
        first | (go_simp; done) | (go_simp; with_reducible rfl)
      simp only [List.set_cons_zero, List.set_cons_succ]
      refine wpAnyH_done (by kernel_rfl) ?_ _
      refine NoPanic.normal ?_
      clear hHeld
      have tm : -2 < (x + y).tmod 2 ∧ (x + y).tmod 2 < 2 := by
        have h7 := Int.natAbs_tmod (x + y) 2
        have h8 : (x + y).natAbs % (2 : Int).natAbs < 2 := Nat.mod_lt _ (by decide)
        omega
      have q13 : IntKind.i64.wrap ((x + y).tmod 2) = (x + y).tmod 2 := by rw [IntKind.wrap_i64]; omega
      have q14 : IntKind.i64.wrap ((x + y) / 2) = (x + y) / 2 := by rw [IntKind.wrap_i64]; omega
      by_cases o1 : (x + y).tmod 2 = 0
      · have f1 : ((x + y).tmod 2 == 0) = true := by simp [o1]
        have f2 : decide ((x + y).tmod 2 = 0) = true := by simp [o1]
        have f3 : (x + y).tdiv 2 = (x + y) / 2 := half_even (by simp [o1])
        clear bx by' tm
        go_wp2_with fail
        refine bodyPost_ret (MiddleOf_ends rfl rfl) rfl ?_
        cases HZ.out
        exact ⟨rfl, H4.out.drew⟩
      have f1 : ((x + y).tmod 2 == 0) = false := beq_eq_false_iff_ne.2 o1
      have f2 : decide ((x + y).tmod 2 = 0) = false := decide_eq_false o1
      by_cases o2 : x + y < 0
      · have f3 : (x + y - 1).tdiv 2 = (x + y) / 2 := half_odd o1
        have f4 : decide (x + y < 0) = true := by simp [o2]
        have f5 : IntKind.i64.wrap (x + y - 1) = x + y - 1 := by rw [IntKind.wrap_i64]; omega
        clear bx by' tm o2
        go_wp2_with fail
        refine bodyPost_ret (MiddleOf_ends rfl rfl) rfl ?_
        cases HZ.out
        exact ⟨rfl, H4.out.drew⟩
      · have f3 : (x + y).tdiv 2 = (x + y) / 2 := half_even (by simp [o2])
        have f4 : decide (x + y < 0) = false := decide_eq_false o2
        clear bx by' tm o2
        go_wp2_with fail
        refine bodyPost_ret (MiddleOf_ends rfl rfl) rfl ?_
        cases HZ.out
        exact ⟨rfl, H4.out.drew⟩
end Go.Proofs.Ytkafihaajpifoaj
