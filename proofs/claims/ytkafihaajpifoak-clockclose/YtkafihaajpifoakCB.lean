import Derived.Test.YtkafihaajpifoakCA
namespace Go.Proofs.Ytkafihaajpifoak
open Go.ChangeShapes Go.WideShapes Go.ChangeAt Go.RowKit Go.Sort

theorem isClocks_any (w : World) (n : Int) : Calls Try.prog 10 #[.int .i64 n] w fun r w' => r = .returned (.bool (within n 1 10)) ∧ w' = w := by
  go_enter Try.func10, Try.ntmps10
  go_wp2_with (go_at_call 14; refine (withinN_any _ _ _ _).mono ?_; rintro r w1 ⟨rfl, hw1⟩; have hw2 := hw1.symm; subst hw2; clear hw1)
  go_ret
  exact ⟨rfl, rfl⟩

def nearB (n : Int) : Bool := within n (-1099511627776) 1099511627776

theorem isNear_any (w : World) (n : Int) : Calls Try.prog 11 #[.int .i64 n] w fun r w' => r = .returned (.bool (nearB n)) ∧ w' = w := by
  unfold nearB
  go_enter Try.func11, Try.ntmps11
  go_wp2_with (go_at_call 14; refine (withinN_any _ _ _ _).mono ?_; rintro r w1 ⟨rfl, hw1⟩; have hw2 := hw1.symm; subst hw2; clear hw1)
  go_ret
  exact ⟨rfl, rfl⟩

theorem far_any (w : World) (n : Int) : Calls Try.prog 13 #[.int .i64 n] w fun r w' => r = .returned (.bool (!nearB n)) ∧ Below w.heap.size w w' := by
  rcases h : nearB n with _ | _
  all_goals
    go_enter Try.func13, Try.ntmps13
    go_wp2_with (go_at_call 11; refine (isNear_any _ _).mono ?_; rintro r w1 ⟨rfl, hw1⟩; subst hw1; rw [h])
    go_ret
    exact ⟨rfl, Below.refl _ _⟩

set_option maxRecDepth 20000 in
theorem hasFar_any (w : World) (xs : List Int) (v : Value) (hl : xs.length ≤ 1000000) (hv : RowSl nuV w xs v) : Calls Try.prog 12 #[v, .func (Fn.func 13) #[] #[]] w fun r w' => r = .returned (.bool (decide (0 ≤ idxI (fun n => !nearB n) xs 0))) ∧ Below w.heap.size w w' := by
  have HC := index28_any w xs v (fun n => !nearB n) hl hv (fun W _ x _ => far_any W x)
  obtain ⟨ad, c, rfl⟩ := hv.len
  clear hv
  generalize idxI (fun n => !nearB n) xs 0 = z at *
  go_enter Try.func12, Try.ntmps12
  go_wp2_with (go_at_call 17; refine HC.mono ?_; rintro r w1 ⟨rfl, hb1⟩; have H1 : Hid (Below w.heap.size w w1) := hb1; clear hb1 HC)
  go_ret
  exact ⟨rfl, H1.out⟩

/-- What a clock takes of what it heard: the number, and what is wrong. -/
def midF (l : List Int) (f : Int) : Int × Int :=
  if l.length = 0 ∨ 10 < l.length then (0, 2)
  else if 0 ≤ idxI (fun n => !nearB n) l 0 then (0, 3)
  else if f < 0 ∨ ((l.length : Int) - 1) / 3 < f then (0, 13)
  else (((srt l).getD f.toNat 0 + (srt l).getD (l.length - 1 - f.toNat) 0) / 2, 0)

theorem near_mem {l : List Int} (h : ¬ 0 ≤ idxI (fun n => !nearB n) l 0) : ∀ x ∈ l, -1099511627776 ≤ x ∧ x ≤ 1099511627776 := by
  rcases idxI_find (P := fun n => !nearB n) l 0 with ⟨h1, -⟩ | ⟨a, -, -, h3⟩
  · intro x hx
    have := List.findIdx?_eq_none_iff.1 h1 x hx
    simp [nearB, within] at this
    omega
  · omega

theorem srt_near {l : List Int} (h : ¬ 0 ≤ idxI (fun n => !nearB n) l 0) (i : Nat) : -1099511627776 ≤ (srt l).getD i 0 ∧ (srt l).getD i 0 ≤ 1099511627776 := by
  rcases hi : (srt l)[i]? with _ | x
  · rw [List.getD_eq_getElem?_getD, hi]; decide
  · rw [List.getD_eq_getElem?_getD, hi]
    exact near_mem h x ((srt_perm l).mem_iff.1 (List.mem_of_getElem? hi))

theorem Middle_ends {w : World} {a : Act} {x y : Value} (h1 : a.tmps[4]?.getD undef = x) (h2 : a.tmps[5]?.getD undef = y) : (results Try.f9 a.tmps).run Try.prog w = .ok (.tuple #[x, y]) w := by
  simp [results, Try.results9, go_sem, h1, h2]

theorem sorted_cells {fn : Nat} (HS : ∀ (W : World) (B : Nat) (xs : List Int) (v : Value), W.ownsRow B 3 1 v xs.length (xs.flatMap nuV) → xs.length ≤ 100000 → Calls Try.prog fn #[v] W fun r W' => r = .returned (.tuple #[]) ∧ ∃ ys : List Int, ys = srt xs ∧ ((v = .slice none 0 0 ∧ ys = []) ∨ ∃ g cap, v = .slice (some ⟨g, 0, none⟩) ys.length cap ∧ B ≤ g ∧ g < W.heap.size ∧ ys.length ≤ cap ∧ Holds (Value.int .i64) W' g 0 ys.toArray) ∧ W.grownBy W' v.ownBlock)
    (W : World) (B : Nat) (xs : List Int) (v : Value) (h : W.ownsRow B 3 1 v xs.length (xs.flatMap nuV)) (hl : xs.length ≤ 100000) (h0 : xs.length ≠ 0) :
    ∃ g cap, v = .slice (some ⟨g, 0, none⟩) xs.length cap ∧ xs.length ≤ cap ∧ Calls Try.prog fn #[v] W fun r W' => r = .returned (.tuple #[]) ∧ (∀ i x, (srt xs)[i]? = some x → W'.cell? ⟨g, i, none⟩ = some (.int .i64 x)) ∧ Below B W W' := by
  have hc := HS W B xs v h hl
  obtain ⟨-, ⟨-, h2⟩ | ⟨g, cap, cur, rfl, hB, hg, hcap, -⟩⟩ := h
  · exact absurd h2 h0
  refine ⟨g, cap, rfl, hcap, hc.mono ?_⟩
  rintro r W' ⟨rfl, ys, rfl, hys, hgr⟩
  have hlt := (Array.getElem?_eq_some_iff.1 hg).1
  refine ⟨rfl, fun i x hi => ?_, grownRow_below hgr (by omega) (fun q hq => by cases hq; exact hB)⟩
  rcases hys with ⟨e, -⟩ | ⟨g', cap', e, -, -, -, hH⟩
  · cases e
  · rw [srt_len] at e
    cases e
    have hil : i < (srt xs).length := (List.getElem?_eq_some_iff.1 hi).1
    have h9 := (hH i (by simpa using hil)).1
    rw [Nat.zero_add] at h9
    rw [h9]
    have e2 : (srt xs).toArray[i]! = x := by
      rw [getElem!_pos (srt xs).toArray i (by simpa using hil)]
      have := (List.getElem?_eq_some_iff.1 hi).2
      simpa using this
    rw [e2]

set_option maxRecDepth 20000 in
set_option maxHeartbeats 2000000 in
theorem Middle_any (w : World) (l : List Int) (f : Int) (v : Value) (hv : RowSl nuV w l v) :
    Calls Try.prog 9 #[v, .int .i64 f] w fun r w' => r = .returned (.tuple #[.int .i64 (midF l f).1, .int .i64 (midF l f).2]) ∧ Below w.heap.size w w' := by
  have h0 := hv
  obtain ⟨ad, c, rfl⟩ := hv.len
  by_cases h1 : l.length = 0 ∨ 10 < l.length
  · have e : midF l f = (0, 2) := by rw [midF, if_pos h1]
    have e1 : within (l.length : Int) 1 10 = false := by simp [within]; omega
    rw [e]
    clear hv h0
    go_enter Try.func9, Try.ntmps9
    go_wp2_with (go_at_call 10; refine (isClocks_any _ _).mono ?_; rintro r w1 ⟨rfl, hw1⟩; have hw2 := hw1.symm; subst hw2; clear hw1; rw [e1])
    refine bodyPost_ret (Middle_ends rfl rfl) rfl ?_
    exact ⟨rfl, Below.refl _ _⟩
  have e1 : within (l.length : Int) 1 10 = true := by simp [within]; omega
  have HF := hasFar_any w l _ (by omega) hv
  by_cases h2 : 0 ≤ idxI (fun n => !nearB n) l 0
  · have e : midF l f = (0, 3) := by rw [midF, if_neg h1, if_pos h2]
    rw [decide_eq_true h2] at HF
    rw [e]
    clear hv h0
    go_enter Try.func9, Try.ntmps9
    go_wp2_with (first | (go_at_call 10; refine (isClocks_any _ _).mono ?_; rintro r w1 ⟨rfl, hw1⟩; have hw2 := hw1.symm; subst hw2; clear hw1; rw [e1]) | (go_at_call 12; refine HF.mono ?_; rintro r w2 ⟨rfl, hb2⟩; have H2 : Hid (Below w.heap.size w w2) := hb2; clear hb2 HF))
    refine bodyPost_ret (Middle_ends rfl rfl) rfl ?_
    exact ⟨rfl, H2.out⟩
  rw [decide_eq_false h2] at HF
  have q1 : IntKind.i64.wrap ((l.length : Int) - 1) = (l.length : Int) - 1 := by rw [IntKind.wrap_i64]; omega
  have q2 : ((l.length : Int) - 1).tdiv 3 = ((l.length : Int) - 1) / 3 := Int.tdiv_eq_ediv_of_nonneg (by omega)
  have q3 : IntKind.i64.wrap (((l.length : Int) - 1) / 3) = ((l.length : Int) - 1) / 3 := by rw [IntKind.wrap_i64]; omega
  by_cases h3 : f < 0 ∨ ((l.length : Int) - 1) / 3 < f
  · have e : midF l f = (0, 13) := by rw [midF, if_neg h1, if_neg h2, if_pos h3]
    have e3 : within f 0 (((l.length : Int) - 1) / 3) = false := by simp [within]; omega
    rw [e]
    clear hv h0
    go_enter Try.func9, Try.ntmps9
    go_wp2_with (first | (go_at_call 10; refine (isClocks_any _ _).mono ?_; rintro r w1 ⟨rfl, hw1⟩; have hw2 := hw1.symm; subst hw2; clear hw1; rw [e1]) | (go_at_call 12; refine HF.mono ?_; rintro r w2 ⟨rfl, hb2⟩; have H2 : Hid (Below w.heap.size w w2) := hb2; clear hb2 HF) | (go_at_call 14; refine (withinN_any _ _ _ _).mono ?_; rintro r w1 ⟨rfl, hw1⟩; have hw2 := hw1.symm; subst hw2; clear hw1; rw [e3]))
    refine bodyPost_ret (Middle_ends rfl rfl) rfl ?_
    exact ⟨rfl, H2.out⟩
  obtain ⟨fn, rfl⟩ : ∃ fn : Nat, f = (fn : Int) := ⟨f.toNat, by omega⟩
  have hfl : fn < l.length := by omega
  have e3 : within (fn : Int) 0 (((l.length : Int) - 1) / 3) = true := by simp [within]; omega
  have e : midF l (fn : Int) = (((srt l).getD fn 0 + (srt l).getD (l.length - 1 - fn) 0) / 2, 0) := by rw [midF, if_neg h1, if_neg h2, if_neg h3, Int.toNat_natCast]
  rw [e]
  have hx : (srt l)[fn]? = some ((srt l).getD fn 0) := by rw [List.getD_eq_getElem?_getD, List.getElem?_eq_getElem (by rw [srt_len]; omega)]; rfl
  have hy : (srt l)[l.length - 1 - fn]? = some ((srt l).getD (l.length - 1 - fn) 0) := by rw [List.getD_eq_getElem?_getD, List.getElem?_eq_getElem (by rw [srt_len]; omega)]; rfl
  have bx := srt_near h2 fn
  have by' := srt_near h2 (l.length - 1 - fn)
  generalize (srt l).getD fn 0 = x at *
  generalize (srt l).getD (l.length - 1 - fn) 0 = y at *
  have hm : ∃ m : Nat, l.length - 1 - fn = m := ⟨_, rfl⟩
  obtain ⟨m, hm⟩ := hm
  rw [hm] at hy
  have q4 : IntKind.i64.wrap ((l.length : Int) - 1 - (fn : Int)) = (m : Int) := by rw [IntKind.wrap_i64]; omega
  have q5 : IntKind.i64.wrap (x + y) = x + y := by rw [IntKind.wrap_i64]; omega
  have hml : (m : Int) < (l.length : Int) := by omega
  have hfi : (fn : Int) < (l.length : Int) := by omega
  have HK : Hid ((srt l)[fn]? = some x ∧ (srt l)[m]? = some y ∧ l.length ≤ 100000 ∧ l.length ≠ 0 ∧ RowSl nuV w l (.slice ad l.length c)) := ⟨hx, hy, by omega, by omega, hv⟩
  clear hx hy hv h0 hm h2 h3 e
  go_enter Try.func9, Try.ntmps9
  go_wp2_with (first | (go_at_call 10; refine (isClocks_any _ _).mono ?_; rintro r w1 ⟨rfl, hw1⟩; have hw2 := hw1.symm; subst hw2; clear hw1; rw [e1]) | (go_at_call 12; refine HF.mono ?_; rintro r w2 ⟨rfl, hb2⟩; have H2 : Hid (Below w.heap.size w w2) := hb2; clear hb2 HF) | (go_at_call 14; refine (withinN_any _ _ _ _).mono ?_; rintro r w1 ⟨rfl, hw1⟩; have hw2 := hw1.symm; subst hw2; clear hw1; rw [e3]) | (go_at_call 15; refine (cloneN_any w2 l _ (HK.out.2.2.2.2.below H2.out) HK.out.2.2.1).mono ?_; rintro r w3 ⟨v3, rfl, ho3, hb3⟩; obtain ⟨g, cap, rfl, hcap, HSo⟩ := sorted_cells sort31_any w3 w2.heap.size l v3 ho3 HK.out.2.2.1 HK.out.2.2.2.1; have H3 : Hid (Below w.heap.size w w3 ∧ w.heap.size ≤ w2.heap.size) := ⟨below_seq H2.out hb3, H2.out.size⟩; clear hb3 ho3) | (go_at_call 16; refine HSo.mono ?_; rintro r w4 ⟨rfl, hc4, hb4⟩; have H4 : Hid (Below w.heap.size w w4) := H3.out.1.trans (hb4.mono H3.out.2); have k0 := hc4 _ _ HK.out.1; have k1 := hc4 _ _ HK.out.2.1; clear hc4 hb4 HSo H3 H2))
  refine wp_region_noPanic ?_
  refine wp_region_held_drew (S := fun w' => w'.cell? ⟨g, fn, none⟩ = some (.int .i64 x) ∧ w'.cell? ⟨g, m, none⟩ = some (.int .i64 y)) (by kernel_rfl) ⟨by go_simp, by go_simp⟩ (fun hHeld => ?_)
  refine take_at (i := 0) (n := 28) (v := ?_) rfl rfl (by kernel_rfl) (by kernel_rfl) (by kernel_rfl) (fun _ _ _ h => h) (Or.inl ⟨by rfl, ?_⟩) (by assumption) ?_
  rotate_left 1
  · intro wz hSw
    obtain ⟨k0, k1⟩ := hSw
    first | (go_simp; done) | (go_simp; with_reducible rfl)
  simp only [List.set_cons_zero, List.set_cons_succ]
  refine take_at (i := 1) (n := 29) (v := ?_) rfl rfl (by kernel_rfl) (by kernel_rfl) (by kernel_rfl) (fun _ _ _ h => h) (Or.inl ⟨by rfl, ?_⟩) (by assumption) ?_
  rotate_left 1
  · intro wz hSw
    obtain ⟨k0, k1⟩ := hSw
    first | (go_simp; done) | (go_simp; with_reducible rfl)
  simp only [List.set_cons_zero, List.set_cons_succ]
  refine take_at (i := 2) (n := 30) (v := ?_) rfl rfl (by kernel_rfl) (by kernel_rfl) (by kernel_rfl) (fun _ _ _ h => h) (Or.inl ⟨by rfl, ?_⟩) (by assumption) ?_
  rotate_left 1
  · intro wz hSw
    obtain ⟨k0, k1⟩ := hSw
    first | (go_simp; done) | (go_simp; with_reducible rfl)
  simp only [List.set_cons_zero, List.set_cons_succ]
  refine take_at (i := 3) (n := 31) (v := ?_) rfl rfl (by kernel_rfl) (by kernel_rfl) (by kernel_rfl) (fun _ _ _ h => h) (Or.inl ⟨by rfl, ?_⟩) (by assumption) ?_
  rotate_left 1
  · intro wz hSw
    obtain ⟨k0, k1⟩ := hSw
    first | (go_simp; done) | (go_simp; with_reducible rfl)
  simp only [List.set_cons_zero, List.set_cons_succ]
  refine take_at (i := 4) (n := 32) (v := ?_) rfl rfl (by kernel_rfl) (by kernel_rfl) (by kernel_rfl) (fun _ _ _ h => h) (Or.inl ⟨by rfl, ?_⟩) (by assumption) ?_
  rotate_left 1
  · intro wz hSw
    obtain ⟨k0, k1⟩ := hSw
    first | (go_simp; done) | (go_simp; with_reducible rfl)
  simp only [List.set_cons_zero, List.set_cons_succ]
  refine take_at (i := 5) (n := 33) (v := ?_) rfl rfl (by kernel_rfl) (by kernel_rfl) (by kernel_rfl) (fun _ _ _ h => h) (Or.inl ⟨by rfl, ?_⟩) (by assumption) ?_
  rotate_left 1
  · intro wz hSw
    obtain ⟨k0, k1⟩ := hSw
    first | (go_simp; done) | (go_simp; with_reducible rfl)
  simp only [List.set_cons_zero, List.set_cons_succ]
  refine take_at (i := 6) (n := 34) (v := ?_) rfl rfl (by kernel_rfl) (by kernel_rfl) (by kernel_rfl) (fun _ _ _ h => h) (Or.inl ⟨by rfl, ?_⟩) (by assumption) ?_
  rotate_left 1
  · intro wz hSw
    obtain ⟨k0, k1⟩ := hSw
    first | (go_simp; done) | (go_simp; with_reducible rfl)
  simp only [List.set_cons_zero, List.set_cons_succ]
  refine take_at (i := 7) (n := 35) (v := ?_) rfl rfl (by kernel_rfl) (by kernel_rfl) (by kernel_rfl) (fun _ _ _ h => h) (Or.inl ⟨by rfl, ?_⟩) (by assumption) ?_
  rotate_left 1
  · intro wz hSw
    obtain ⟨k0, k1⟩ := hSw
    first | (go_simp; done) | (go_simp; with_reducible rfl)
  simp only [List.set_cons_zero, List.set_cons_succ]
  refine take_at (i := 8) (n := 36) (v := ?_) rfl rfl (by kernel_rfl) (by kernel_rfl) (by kernel_rfl) (fun _ _ _ h => h) (Or.inl ⟨by rfl, ?_⟩) (by assumption) ?_
  rotate_left 1
  · intro wz hSw
    obtain ⟨k0, k1⟩ := hSw
    first | (go_simp; done) | (go_simp; with_reducible rfl)
  simp only [List.set_cons_zero, List.set_cons_succ]
  refine take_at (i := 9) (n := 37) (v := ?_) rfl rfl (by kernel_rfl) (by kernel_rfl) (by kernel_rfl) (fun _ _ _ h => h) (Or.inl ⟨by rfl, ?_⟩) (by assumption) ?_
  rotate_left 1
  · intro wz hSw
    obtain ⟨k0, k1⟩ := hSw
    first | (go_simp; done) | (go_simp; with_reducible rfl)
  simp only [List.set_cons_zero, List.set_cons_succ]
  refine take_at (i := 10) (n := 38) (v := ?_) rfl rfl (by kernel_rfl) (by kernel_rfl) (by kernel_rfl) (fun _ _ _ h => h) (Or.inl ⟨by rfl, ?_⟩) (by assumption) ?_
  rotate_left 1
  · intro wz hSw
    obtain ⟨k0, k1⟩ := hSw
    first | (go_simp; done) | (go_simp; with_reducible rfl)
  simp only [List.set_cons_zero, List.set_cons_succ]
  refine take_at (i := 11) (n := 39) (v := ?_) rfl rfl (by kernel_rfl) (by kernel_rfl) (by kernel_rfl) (fun _ _ _ h => h) (Or.inl ⟨by rfl, ?_⟩) (by assumption) ?_
  rotate_left 1
  · intro wz hSw
    obtain ⟨k0, k1⟩ := hSw
    first | (go_simp; done) | (go_simp; with_reducible rfl)
  simp only [List.set_cons_zero, List.set_cons_succ]
  refine take_at (i := 12) (n := 40) (v := ?_) rfl rfl (by kernel_rfl) (by kernel_rfl) (by kernel_rfl) (fun _ _ _ h => h) (Or.inl ⟨by rfl, ?_⟩) (by assumption) ?_
  rotate_left 1
  · intro wz hSw
    obtain ⟨k0, k1⟩ := hSw
    first | (go_simp; done) | (go_simp; with_reducible rfl)
  simp only [List.set_cons_zero, List.set_cons_succ]
  refine take_at (i := 13) (n := 4) (v := ?_) rfl rfl (by kernel_rfl) (by kernel_rfl) (by kernel_rfl) (fun _ _ _ h => h) (Or.inl ⟨by rfl, ?_⟩) (by assumption) ?_
  rotate_left 1
  · intro wz hSw
    obtain ⟨k0, k1⟩ := hSw
    first | (go_simp; done) | (go_simp; with_reducible rfl)
  simp only [List.set_cons_zero, List.set_cons_succ]
  refine take_at (i := 14) (n := 5) (v := ?_) rfl rfl (by kernel_rfl) (by kernel_rfl) (by kernel_rfl) (fun _ _ _ h => h) (Or.inl ⟨by rfl, ?_⟩) (by assumption) ?_
  rotate_left 1
  · intro wz hSw
    obtain ⟨k0, k1⟩ := hSw
    first | (go_simp; done) | (go_simp; with_reducible rfl)
  simp only [List.set_cons_zero, List.set_cons_succ]
  refine wpAnyH_done (by kernel_rfl) ?_ _
  refine NoPanic.normal ?_
  clear hHeld
  go_wp2_with fail
  refine bodyPost_ret (Middle_ends rfl rfl) rfl ?_
  exact ⟨rfl, H4.out.drew⟩
end Go.Proofs.Ytkafihaajpifoak
