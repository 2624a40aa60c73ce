import Derived.Test.YtccoobcggbbciaiMX
namespace Go.Proofs.Ytccoobcggbbciai
open Go.ChangeShapes Go.WideShapes Go.ChangeAt Go.RowKit

set_option maxRecDepth 20000 in
set_option maxHeartbeats 2000000 in
theorem done_any (W : World) (mb ib cb eb n i : Nat) (e a wi : Int) (h1 : W.cell? ⟨mb, 1, none⟩ = some (.slice (some ⟨eb, 0, none⟩) n n)) (h2 : W.cell? ⟨ib, 0, none⟩ = some (.int .i64 (i : Int))) (h3 : W.cell? ⟨eb, i, none⟩ = some (.int .i64 e)) (h4 : W.cell? ⟨cb, 1, none⟩ = some (.int .i64 a)) (hi : i < n) (he : 0 ≤ e ∧ e ≤ 100000) (ha : 0 ≤ a ∧ a ≤ 100000) (hw : e - a ≤ wi) :
    Calls Try.prog 9 #[.int .i64 wi, .pointer (some ⟨mb, 0, none⟩), .pointer (some ⟨ib, 0, none⟩), .pointer (some ⟨cb, 0, none⟩)] W fun r w' => r = .returned (.bool true) ∧ Below W.heap.size W w' := by
  have hii : (i : Int) < (n : Int) := by omega
  have he0 : (0 : Int) ≤ e := he.1
  have hsub : IntKind.i64.wrap (e - a) = e - a := by rw [IntKind.wrap_i64]; omega
  clear he ha hi
  go_enter Try.func9, Try.ntmps9
  go_upto_region 1 with fail
  refine wp_region_noPanic ?_
  refine wp_region_held_drew (S := fun w' => w'.cell? ⟨mb, 1, none⟩ = some (.slice (some ⟨eb, 0, none⟩) n n) ∧ w'.cell? ⟨ib, 0, none⟩ = some (.int .i64 (i : Int)) ∧ w'.cell? ⟨eb, i, none⟩ = some (.int .i64 e) ∧ w'.cell? ⟨cb, 1, none⟩ = some (.int .i64 a)) (by kernel_rfl) ⟨h1, h2, h3, h4⟩ (fun hHeld => ?_)
  refine take_at (i := 0) (n := 6) (v := ?_) rfl rfl (by kernel_rfl) (by kernel_rfl) (by kernel_rfl) (fun _ _ _ h => h) (Or.inl ⟨by rfl, ?_⟩) (by assumption) ?_
  rotate_left 1
  · intro wz hSw
    obtain ⟨s0, s1, s2, s3⟩ := hSw
    first | (go_simp; done) | (go_simp; with_reducible rfl)
  simp only [List.set_cons_zero, List.set_cons_succ]
  refine take_at (i := 1) (n := 7) (v := ?_) rfl rfl (by kernel_rfl) (by kernel_rfl) (by kernel_rfl) (fun _ _ _ h => h) (Or.inl ⟨by rfl, ?_⟩) (by assumption) ?_
  rotate_left 1
  · intro wz hSw
    obtain ⟨s0, s1, s2, s3⟩ := hSw
    first | (go_simp; done) | (go_simp; with_reducible rfl)
  simp only [List.set_cons_zero, List.set_cons_succ]
  refine take_at (i := 2) (n := 8) (v := ?_) rfl rfl (by kernel_rfl) (by kernel_rfl) (by kernel_rfl) (fun _ _ _ h => h) (Or.inl ⟨by rfl, ?_⟩) (by assumption) ?_
  rotate_left 1
  · intro wz hSw
    obtain ⟨s0, s1, s2, s3⟩ := hSw
    first | (go_simp; done) | (go_simp; with_reducible rfl)
  simp only [List.set_cons_zero, List.set_cons_succ]
  refine take_at (i := 3) (n := 9) (v := ?_) rfl rfl (by kernel_rfl) (by kernel_rfl) (by kernel_rfl) (fun _ _ _ h => h) (Or.inl ⟨by rfl, ?_⟩) (by assumption) ?_
  rotate_left 1
  · intro wz hSw
    obtain ⟨s0, s1, s2, s3⟩ := hSw
    first | (go_simp; done) | (go_simp; with_reducible rfl)
  simp only [List.set_cons_zero, List.set_cons_succ]
  refine take_at (i := 4) (n := 10) (v := ?_) rfl rfl (by kernel_rfl) (by kernel_rfl) (by kernel_rfl) (fun _ _ _ h => h) (Or.inl ⟨by rfl, ?_⟩) (by assumption) ?_
  rotate_left 1
  · intro wz hSw
    obtain ⟨s0, s1, s2, s3⟩ := hSw
    first | (go_simp; done) | (go_simp; with_reducible rfl)
  simp only [List.set_cons_zero, List.set_cons_succ]
  refine take_at (i := 5) (n := 11) (v := ?_) rfl rfl (by kernel_rfl) (by kernel_rfl) (by kernel_rfl) (fun _ _ _ h => h) (Or.inl ⟨by rfl, ?_⟩) (by assumption) ?_
  rotate_left 1
  · intro wz hSw
    obtain ⟨s0, s1, s2, s3⟩ := hSw
    first | (go_simp; done) | (go_simp; with_reducible rfl)
  simp only [List.set_cons_zero, List.set_cons_succ]
  refine take_at (i := 6) (n := 12) (v := ?_) rfl rfl (by kernel_rfl) (by kernel_rfl) (by kernel_rfl) (fun _ _ _ h => h) (Or.inl ⟨by rfl, ?_⟩) (by assumption) ?_
  rotate_left 1
  · intro wz hSw
    obtain ⟨s0, s1, s2, s3⟩ := hSw
    first | (go_simp; done) | (go_simp; with_reducible rfl)
  simp only [List.set_cons_zero, List.set_cons_succ]
  refine take_at (i := 7) (n := 13) (v := ?_) rfl rfl (by kernel_rfl) (by kernel_rfl) (by kernel_rfl) (fun _ _ _ h => h) (Or.inl ⟨by rfl, ?_⟩) (by assumption) ?_
  rotate_left 1
  · intro wz hSw
    obtain ⟨s0, s1, s2, s3⟩ := hSw
    first | (go_simp; done) | (go_simp; with_reducible rfl)
  simp only [List.set_cons_zero, List.set_cons_succ]
  refine take_at (i := 8) (n := 14) (v := ?_) rfl rfl (by kernel_rfl) (by kernel_rfl) (by kernel_rfl) (fun _ _ _ h => h) (Or.inl ⟨by rfl, ?_⟩) (by assumption) ?_
  rotate_left 1
  · intro wz hSw
    obtain ⟨s0, s1, s2, s3⟩ := hSw
    first | (go_simp; done) | (go_simp; with_reducible rfl)
  simp only [List.set_cons_zero, List.set_cons_succ]
  refine take_at (i := 9) (n := 15) (v := ?_) rfl rfl (by kernel_rfl) (by kernel_rfl) (by kernel_rfl) (fun _ _ _ h => h) (Or.inl ⟨by rfl, ?_⟩) (by assumption) ?_
  rotate_left 1
  · intro wz hSw
    obtain ⟨s0, s1, s2, s3⟩ := hSw
    first | (go_simp; done) | (go_simp; with_reducible rfl)
  simp only [List.set_cons_zero, List.set_cons_succ]
  refine take_at (i := 10) (n := 16) (v := ?_) rfl rfl (by kernel_rfl) (by kernel_rfl) (by kernel_rfl) (fun _ _ _ h => h) (Or.inl ⟨by rfl, ?_⟩) (by assumption) ?_
  rotate_left 1
  · intro wz hSw
    obtain ⟨s0, s1, s2, s3⟩ := hSw
    first | (go_simp; done) | (go_simp; with_reducible rfl)
  simp only [List.set_cons_zero, List.set_cons_succ]
  refine take_at (i := 11) (n := 17) (v := ?_) rfl rfl (by kernel_rfl) (by kernel_rfl) (by kernel_rfl) (fun _ _ _ h => h) (Or.inl ⟨by rfl, ?_⟩) (by assumption) ?_
  rotate_left 1
  · intro wz hSw
    obtain ⟨s0, s1, s2, s3⟩ := hSw
    first | (go_simp; done) | (go_simp; with_reducible rfl)
  simp only [List.set_cons_zero, List.set_cons_succ]
  refine take_at (i := 12) (n := 18) (v := ?_) rfl rfl (by kernel_rfl) (by kernel_rfl) (by kernel_rfl) (fun _ _ _ h => h) (Or.inl ⟨by rfl, ?_⟩) (by assumption) ?_
  rotate_left 1
  · intro wz hSw
    obtain ⟨s0, s1, s2, s3⟩ := hSw
    first | (go_simp; done) | (go_simp; with_reducible rfl)
  simp only [List.set_cons_zero, List.set_cons_succ]
  refine take_at (i := 13) (n := 19) (v := ?_) rfl rfl (by kernel_rfl) (by kernel_rfl) (by kernel_rfl) (fun _ _ _ h => h) (Or.inl ⟨by rfl, ?_⟩) (by assumption) ?_
  rotate_left 1
  · intro wz hSw
    obtain ⟨s0, s1, s2, s3⟩ := hSw
    first | (go_simp; done) | (go_simp; with_reducible rfl)
  simp only [List.set_cons_zero, List.set_cons_succ]
  refine take_at (i := 14) (n := 20) (v := ?_) rfl rfl (by kernel_rfl) (by kernel_rfl) (by kernel_rfl) (fun _ _ _ h => h) (Or.inl ⟨by rfl, ?_⟩) (by assumption) ?_
  rotate_left 1
  · intro wz hSw
    obtain ⟨s0, s1, s2, s3⟩ := hSw
    first | (go_simp; done) | (go_simp; with_reducible rfl)
  simp only [List.set_cons_zero, List.set_cons_succ]
  refine take_at (i := 15) (n := 21) (v := ?_) rfl rfl (by kernel_rfl) (by kernel_rfl) (by kernel_rfl) (fun _ _ _ h => h) (Or.inl ⟨by rfl, ?_⟩) (by assumption) ?_
  rotate_left 1
  · intro wz hSw
    obtain ⟨s0, s1, s2, s3⟩ := hSw
    first | (go_simp; done) | (go_simp; with_reducible rfl)
  simp only [List.set_cons_zero, List.set_cons_succ]
  refine take_at (i := 16) (n := 22) (v := ?_) rfl rfl (by kernel_rfl) (by kernel_rfl) (by kernel_rfl) (fun _ _ _ h => h) (Or.inl ⟨by rfl, ?_⟩) (by assumption) ?_
  rotate_left 1
  · intro wz hSw
    obtain ⟨s0, s1, s2, s3⟩ := hSw
    first | (go_simp; done) | (go_simp; with_reducible rfl)
  simp only [List.set_cons_zero, List.set_cons_succ]
  refine take_at (i := 17) (n := 23) (v := ?_) rfl rfl (by kernel_rfl) (by kernel_rfl) (by kernel_rfl) (fun _ _ _ h => h) (Or.inl ⟨by rfl, ?_⟩) (by assumption) ?_
  rotate_left 1
  · intro wz hSw
    obtain ⟨s0, s1, s2, s3⟩ := hSw
    first | (go_simp; done) | (go_simp; with_reducible rfl)
  simp only [List.set_cons_zero, List.set_cons_succ]
  refine take_at (i := 18) (n := 24) (v := ?_) rfl rfl (by kernel_rfl) (by kernel_rfl) (by kernel_rfl) (fun _ _ _ h => h) (Or.inl ⟨by rfl, ?_⟩) (by assumption) ?_
  rotate_left 1
  · intro wz hSw
    obtain ⟨s0, s1, s2, s3⟩ := hSw
    first | (go_simp; done) | (go_simp; with_reducible rfl)
  simp only [List.set_cons_zero, List.set_cons_succ]
  refine take_at (i := 19) (n := 25) (v := ?_) rfl rfl (by kernel_rfl) (by kernel_rfl) (by kernel_rfl) (fun _ _ _ h => h) (Or.inl ⟨by rfl, ?_⟩) (by assumption) ?_
  rotate_left 1
  · intro wz hSw
    obtain ⟨s0, s1, s2, s3⟩ := hSw
    first | (go_simp; done) | (go_simp; with_reducible rfl)
  simp only [List.set_cons_zero, List.set_cons_succ]
  refine take_at (i := 20) (n := 5) (v := ?_) rfl rfl (by kernel_rfl) (by kernel_rfl) (by kernel_rfl) (fun _ _ _ h => h) (Or.inl ⟨by rfl, ?_⟩) (by assumption) ?_
  rotate_left 1
  · intro wz hSw
    obtain ⟨s0, s1, s2, s3⟩ := hSw
    first | (go_simp; done) | (go_simp; with_reducible rfl)
  simp only [List.set_cons_zero, List.set_cons_succ]
  refine wpAnyH_done (by kernel_rfl) ?_ _
  refine NoPanic.normal ?_
  clear hHeld
  go_wp2_with fail
  go_ret
  exact ⟨rfl, (Below.refl _ _).drew⟩

/-- What the law has seen of the comings ahead of the i-th. -/
structure Seen (set : List Cr) (cs : List Co) (i : Nat) (e : Int) : Prop where
  rng : ∀ j c, j < i → cs[j]? = some c → (0 ≤ c.k ∧ c.k < (set.length : Int)) ∧ 0 ≤ c.a ∧ c.a ≤ 2000
  apart : ∀ j q cj cq, j < q → q < i → cs[j]? = some cj → cs[q]? = some cq → cj.k = cq.k → cj.a + (crOf set cs q).t ≤ cq.a
  top : 0 ≤ e ∧ e ≤ 12000
  fin : ∀ j c, j < i → cs[j]? = some c → c.a + (crOf set cs j).d ≤ e

theorem Seen.start (set : List Cr) (cs : List Co) : Seen set cs 0 0 := ⟨fun j c h => by omega, fun j q cj cq h1 h2 => by omega, by omega, fun j c h => by omega⟩

theorem Seen.next {set : List Cr} {cs : List Co} {i : Nat} {e : Int} {c : Co} (h : Seen set cs i e) (hc : cs[i]? = some c) (hr : (0 ≤ c.k ∧ c.k < (set.length : Int)) ∧ 0 ≤ c.a ∧ c.a ≤ 2000) (ha : ∀ j cj, j < i → cs[j]? = some cj → cj.k = c.k → cj.a + (crOf set cs i).t ≤ c.a) (hd : 0 ≤ (crOf set cs i).d ∧ (crOf set cs i).d ≤ 10000) : Seen set cs (i + 1) (max e (c.a + (crOf set cs i).d)) := by
  have ht := h.top
  refine ⟨fun j c' hj hc' => ?_, fun j q cj cq hjq hq hcj hcq hk => ?_, by omega, fun j c' hj hc' => ?_⟩
  · by_cases e : j = i
    · subst e; rw [hc] at hc'; cases hc'; exact hr
    · exact h.rng j c' (by omega) hc'
  · by_cases e : q = i
    · subst e; rw [hc] at hcq; cases hcq; exact ha j cj hjq hcj hk
    · exact h.apart j q cj cq hjq (by omega) hcj hcq hk
  · by_cases e : j = i
    · subst e; rw [hc] at hc'; cases hc'; omega
    · have := h.fin j c' (by omega) hc'; omega

/-- What may be wrong with what is played, where each coming is one of a task. -/
theorem chkMF_code {set : List Cr} {tk : List Int} : ∀ (r : List Co) (i : Nat), (∀ c ∈ r, 0 ≤ c.k ∧ c.k < (set.length : Int)) → (chkMF set tk r i).1 ≠ 0 → (chkMF set tk r i).1 = 3
  | [], _, _, h => absurd rfl h
  | c :: r, i, hr, h => by
    rw [chkMF] at h ⊢
    by_cases hz : badM set c (tk.getD i 0) = 0
    · rw [if_pos hz] at h ⊢
      exact chkMF_code r (i + 1) (fun x hx => hr x (List.mem_cons_of_mem _ hx)) h
    · rw [if_neg hz]
      have h1 := hr c List.mem_cons_self
      show badM set c (tk.getD i 0) = 3
      unfold badM at hz ⊢
      have hw : within c.k 0 ((set.length : Int) - 1) = true := by unfold within; simp; omega
      rw [if_neg (by simp [hw])] at hz ⊢
      split at hz
      · rename_i h2; rw [if_pos h2]
      · exact absurd rfl hz

theorem chkM_code {set : List Cr} {cs : List Co} {tk : List Int} {u : Int} (h0 : (chkC set).1 = 0) (hr : ∀ c ∈ cs, 0 ≤ c.k ∧ c.k < (set.length : Int)) (h : (chkM set cs tk u).1 ≠ 0) : (chkM set cs tk u).1 = 2 ∨ (chkM set cs tk u).1 = 3 := by
  by_cases h2 : 4000 < cs.length ∨ tk.length ≠ cs.length
  · rw [chkM_2 h0 h2]; exact .inl rfl
  · cases h3 : within u 0 20000 with
    | false => rw [chkM_3 h0 h2 h3]; exact .inr rfl
    | true =>
      rw [chkM_4 h0 h2 h3] at h ⊢
      exact .inr (chkMF_code cs 0 hr h)

/-- When one is done lies in what was played. -/
theorem playsT_ends {l : List Jb} {hi : Nat → Bool} {cl : Nat → Int} (hl : ∀ x ∈ l, S8.okJ x) : ∀ (t : Nat) (s : S8.St) (T : Int), PlaysT l hi cl t s T → t ≤ 20000 → ∀ e ∈ s.ends, e ≤ 20000
  | 0, s, T, h, _, e, he => by rw [h.1] at he; simp [S8.St.init] at he; omega
  | t + 1, s, T, ⟨s0, T0, b, h1, h2, h3, _⟩, ht, e, he => by
    have ih := playsT_ends hl t s0 T0 h1 (by omega)
    rw [h3] at he
    rcases best_rng h2 with rfl | ⟨k, rfl, hk, -, -⟩
    · exact ih e he
    · rw [after_someT] at he
      dsimp only at he
      split at he
      · rcases List.mem_or_eq_of_mem_set he with he | he
        · exact ih e he
        · omega
      · exact ih e he

/-- A row of numbers stays where all but a block of two stays. -/
theorem rowM_keep {W W' : World} {fb : Nat} {l : List Int} {v : Value} (h : RowSl nuV W l v) (hk : ∀ q, q < W.heap.size → q ≠ fb → W'.heap[q]? = W.heap[q]?) (hne : ∀ b o n c, v = .slice (some ⟨b, o, none⟩) n c → b ≠ fb) : RowSl nuV W' l v := by
  obtain ⟨ad, c, e, h1, h2, h3⟩ := h
  refine ⟨ad, c, e, h1, h2, ?_⟩
  rcases h3 with h3 | ⟨b, o, e2, h3⟩
  · exact .inl h3
  · refine .inr ⟨b, o, e2, fun q u hq => ?_⟩
    have hc := h3 q u hq
    refine (World.cell?_of_block (hk b (World.block_lt_of_cell? _ _ hc) (hne b o _ _ (by rw [e, e2])))).trans hc

theorem worstM_range {l : List Cr} {x : Cr} (hx : okCr x) : (0 ≤ (worstM l x).1 ∧ (worstM l x).1 ≤ 10000) ∧ 0 ≤ (worstM l x).2.1 ∧ (worstM l x).2.1 ≤ 10000 := by
  unfold okCr at hx
  have h1 : 0 ≤ wellF l x ∧ wellF l x ≤ x.d := wOf_range (by omega) (by omega)
  have h2 : 0 ≤ illF l x ∧ illF l x ≤ x.d := wOf_range (by omega) (by omega)
  unfold worstM
  split
  · dsimp only; omega
  · split <;> (dsimp only; omega)

theorem from_K {P : Program} {c : Code} {q : Exit → Act → World → Prop} {K : Act → World → Prop} (h : ∀ a w, Code.wp P c q a w → K a w) (a : Act) (w : World) (g : Code.wp P c q a w) : K a w := h a w g

/-- The fault's block, and what is below it. -/
structure LK (w W : World) (fb : Nat) : Prop where
  bel : Below w.heap.size w W
  f : W.heap[fb]? = some (.cells #[.int .i64 0, .int .i64 0] 29 (0, 0))
  low : w.heap.size ≤ fb

theorem LK.grow {w W W' : World} {fb : Nat} (h : LK w W fb) (hb : Below W.heap.size W W') : LK w W' fb := ⟨below_seq h.bel hb, (hb.block _ (lt_heapM h.f)).trans h.f, h.low⟩

set_option maxRecDepth 20000 in
set_option maxHeartbeats 8000000 in
theorem law_any (w : World) (set : List Cr) (cs : List Co) (tk : List Int) (v vc vt : Value) (hv : RowSl Cr.vals w set v) (hc : RowSl Co.vals w cs vc) (ht : RowSl nuV w tk vt) :
    Calls Try.prog 3 #[v, vc, vt] w fun r w' => r = .returned (.bool true) ∧ Below w.heap.size w w' := by
  have HV : Hid (RowSl Cr.vals w set v ∧ RowSl Co.vals w cs vc ∧ RowSl nuV w tk vt) := ⟨hv, hc, ht⟩
  have T1 := turns_any w
  obtain ⟨ad, ac, rfl⟩ := hv.len
  obtain ⟨bd, bc, rfl⟩ := hc.len
  obtain ⟨td, tc, rfl⟩ := ht.len
  clear hv hc ht
  by_cases hf : (set.length : Int) ≤ 5000
  rotate_left 1
  · have hf' : decide ((set.length : Int) ≤ 5000) = false := by simpa using hf
    go_enter Try.func3, Try.ntmps3
    go_wp2_with (first | (go_at_call 6; refine (few_any _ _).mono ?_; rintro r w5 ⟨rfl, hw5⟩; have hw6 := hw5.symm; subst hw6; clear hw5; rw [hf']) | (go_at_call 5; refine T1.mono ?_; rintro r w1 ⟨rfl, hb1⟩; have H1 : Hid (Below w.heap.size w w1) := hb1; clear hb1 T1))
    go_ret
    exact ⟨rfl, H1.out⟩
  have hf' : decide ((set.length : Int) ≤ 5000) = true := by simpa using hf
  by_cases h3 : (300 : Int) < (cs.length : Int)
  · go_enter Try.func3, Try.ntmps3
    go_wp2_with (first | (go_at_call 6; refine (few_any _ _).mono ?_; rintro r w5 ⟨rfl, hw5⟩; have hw6 := hw5.symm; subst hw6; clear hw5; rw [hf']) | (go_at_call 5; refine T1.mono ?_; rintro r w1 ⟨rfl, hb1⟩; have H1 : Hid (Below w.heap.size w w1) := hb1; clear hb1 T1))
    go_ret
    exact ⟨rfl, H1.out⟩
  go_enter Try.func3, Try.ntmps3
  go_upto_region 5 with (first | (go_at_call 6; refine (few_any _ _).mono ?_; rintro r w5 ⟨rfl, hw5⟩; have hw6 := hw5.symm; subst hw6; clear hw5; rw [hf']) | (go_at_call 5; refine T1.mono ?_; rintro r w1 ⟨rfl, hb1⟩; have H1 : Hid (Below w.heap.size w w1) := hb1; clear hb1 T1))
  have R1 := Responses_any w1 set _ (HV.out.1.below H1.out)
  go_upto_region 6 with (go_at_call 7; refine R1.mono ?_; rintro r w2 ⟨acc, bcc, av, bv, z1, z2, his, rfl, ho1, ho2, -, hb2⟩; have H2 : Hid (Below w.heap.size w (w2.alloc (.cells #[.int .i64 z1, .int .i64 z2] 29)) ∧ RespIs set acc bcc z1 z2 ∧ RowSl nuV (w2.alloc (.cells #[.int .i64 z1, .int .i64 z2] 29)) acc av ∧ RowSl nuV (w2.alloc (.cells #[.int .i64 z1, .int .i64 z2] 29)) bcc bv ∧ w.heap.size ≤ w2.heap.size ∧ (∀ b o n c, av = .slice (some ⟨b, o, none⟩) n c → b < w2.heap.size) ∧ (∀ b o n c, bv = .slice (some ⟨b, o, none⟩) n c → b < w2.heap.size)) := ⟨below_seq (below_seq H1.out hb2) (below_new _ _), his, (rowM_own ho1).below (below_new _ _), (rowM_own ho2).below (below_new _ _), (below_seq H1.out hb2).size, fun b o n c e => (ho1.lt b (by rw [e]; rfl)).2, fun b o n c e => (ho2.lt b (by rw [e]; rfl)).2⟩; obtain ⟨aad, aac, rfl⟩ := (rowM_own ho1).len; obtain ⟨bad, bac, rfl⟩ := (rowM_own ho2).len; clear his ho1 ho2 hb2 R1)
  obtain ⟨fs, fq, fl⟩ := cells_of (l := [_, _]) (heap_alloc_new w2 (.cells #[.int .i64 z1, .int .i64 z2] 29))
  have f0 := fs 0 _ rfl
  have hfb := heap_alloc_new w2 (.cells #[.int .i64 z1, .int .i64 z2] 29)
  clear fs fq
  generalize (w2.alloc (.cells #[.int .i64 z1, .int .i64 z2] 29)) = w3 at *
  generalize w2.heap.size = fb at *
  by_cases hz : z1 = 0
  rotate_left 1
  · have hzb : (z1 != 0) = true := by simpa using hz
    have he : acc = [] ∧ bcc = [] := by
      rcases H2.out.2.1 with ⟨-, h1, h2, -⟩ | ⟨-, ⟨-, h1, h2, -⟩ | ⟨-, h1, -⟩⟩
      · exact ⟨h1, h2⟩
      · exact ⟨h1, h2⟩
      · exact absurd h1 hz
    obtain ⟨rfl, rfl⟩ := he
    simp only [List.length_nil] at *
    go_wp2_with fail
    go_ret
    exact ⟨rfl, H2.out.1⟩
  subst hz
  have hgood : (chkC set).1 = 0 ∧ failC set set 0 = -1 ∧ z2 = 0 ∧ acc = wsF set set ∧ bcc = isF set set := by
    rcases H2.out.2.1 with ⟨h1, -, -, h2⟩ | ⟨h0, ⟨-, -, -, h1, -⟩ | ⟨h1, -, h2, h3, h4⟩⟩
    · exact absurd (congrArg Prod.fst h2).symm h1
    · omega
    · exact ⟨h0, h1, h2, h3, h4⟩
  obtain ⟨hC, hfl, rfl, rfl, rfl⟩ := hgood
  have hwl : (wsF set set).length = set.length := by simp [wsF]
  have hil : (isF set set).length = set.length := by simp [isF]
  have hr1 := H2.out.2.2.1
  have hr2 := H2.out.2.2.2.1
  rw [hwl] at hr1
  rw [hil] at hr2
  rw [hwl, hil]
  have HC : Hid ((chkC set).1 = 0 ∧ failC set set 0 = -1) := ⟨hC, hfl⟩
  have H3 : Hid (LK w w3 fb ∧ RowSl nuV w3 (wsF set set) (.slice aad set.length aac) ∧ RowSl nuV w3 (isF set set) (.slice bad set.length bac) ∧ (∀ b o n c, Value.slice aad set.length aac = .slice (some ⟨b, o, none⟩) n c → b ≠ fb) ∧ (∀ b o n c, Value.slice bad set.length bac = .slice (some ⟨b, o, none⟩) n c → b ≠ fb)) := ⟨⟨H2.out.1, hfb, H2.out.2.2.2.2.1⟩, hr1, hr2, (fun b o n c e => by cases e; have := H2.out.2.2.2.2.2.1 b o _ _ rfl; omega), (fun b o n c e => by cases e; have := H2.out.2.2.2.2.2.2 b o _ _ rfl; omega)⟩
  obtain ⟨hs1, hs8, hsok, -⟩ := chkC_ok hC
  have HS : Hid (∀ x ∈ set, okCr x) := hsok
  clear H2 hfb hC hfl hwl hil hsok hr1 hr2
  go_wp2_with fail
  clear f0
  go_loopw [10, 49] (fun e10 i49 wr => ∃ (i : Nat) (e : Int), i ≤ cs.length ∧ e10 = .int .i64 e ∧ i49 = .int .i64 (i : Int) ∧ LK w wr fb ∧ Below w3.heap.size w3 wr ∧ Seen set cs i e) (fun _ i49 _ => cs.length - (intOf i49).toNat)
  case atStart => exact ⟨0, 0, Nat.zero_le _, rfl, rfl, H3.out.1, Below.refl _ _, Seen.start set cs⟩
  case round =>
    obtain ⟨i, e, hi, rfl, rfl, hlk, hb3, hseen⟩ := hrel
    by_cases hil : i < cs.length
    · obtain ⟨x, hx, -⟩ := drop_at hil
      have hq1 := HV.out.2.1
      obtain ⟨bd', bc', eq, -, hbc, hrc⟩ := hq1
      cases eq
      rcases hrc with h | ⟨bb, bo, rfl, hr1⟩
      · rw [h] at hil; simp at hil
      obtain ⟨c0, c1⟩ := co_at (fun q u hq => below_cell hlk.bel (hr1 q u hq)) hx
      have HL : Hid (LK w (wr.alloc (.cells #[.int .i64 x.k, .int .i64 x.a] 33)) fb ∧ Below w3.heap.size w3 (wr.alloc (.cells #[.int .i64 x.k, .int .i64 x.a] 33)) ∧ Seen set cs i e ∧ cs[i]? = some x ∧ (∀ q u, (cs.flatMap Co.vals)[q]? = some u → w.cell? ⟨bb, bo + q, none⟩ = some u)) := ⟨hlk.grow (below_new _ _), below_seq hb3 (below_new _ _), hseen, hx, hr1⟩
      have hii : (i : Int) < (cs.length : Int) := by omega
      obtain ⟨cs0, cf0, cl0⟩ := cells_of (l := [_, _]) (heap_alloc_new wr (.cells #[.int .i64 x.k, .int .i64 x.a] 33))
      have cg0 := cs0 0 _ rfl
      have cg1 := cs0 1 _ rfl
      clear hr1 hx hlk hb3 hseen cs0 cf0
      obtain ⟨yk, xa⟩ := x
      dsimp only at c0 c1 cg0 cg1 HL
      by_cases q1 : yk < 0
      · go_wp2_with fail
        go_ret
        exact ⟨rfl, HL.out.1.bel⟩
      by_cases q2 : (set.length : Int) ≤ yk
      · go_wp2_with fail
        go_ret
        exact ⟨rfl, HL.out.1.bel⟩
      by_cases q3 : xa < 0
      · go_wp2_with fail
        go_ret
        exact ⟨rfl, HL.out.1.bel⟩
      by_cases q4 : 2000 < xa
      · go_wp2_with fail
        go_ret
        exact ⟨rfl, HL.out.1.bel⟩
      obtain ⟨k, rfl⟩ : ∃ k : Nat, yk = (k : Int) := ⟨yk.toNat, by omega⟩
      have hkl : k < set.length := by omega
      have hv1 := HV.out.1
      obtain ⟨ad', ac', eq, -, hac, hrs⟩ := hv1
      cases eq
      rcases hrs with h | ⟨ab, ao, rfl, hr3⟩
      · rw [h] at hkl; simp at hkl
      obtain ⟨xx, hxx⟩ : ∃ xx, set[k]? = some xx := ⟨_, List.getElem?_eq_getElem hkl⟩
      have hcr : crOf set cs i = xx := by
        unfold crOf
        rw [show cs.getD i ⟨0, 0⟩ = ⟨(k : Int), xa⟩ by rw [List.getD_eq_getElem?_getD, HL.out.2.2.2.1]; rfl]
        show set.getD ((k : Int)).toNat _ = xx
        rw [Int.toNat_natCast, List.getD_eq_getElem?_getD, hxx]; rfl
      obtain ⟨-, -, cxt, cxd, -, -⟩ := cr_at (fun q u hq => below_cell HL.out.1.bel (hr3 q u hq)) hxx
      have hxok := HS.out xx (List.mem_of_getElem? hxx)
      unfold okCr at hxok
      have HX : Hid (crOf set cs i = xx ∧ 1 ≤ xx.t ∧ xx.t ≤ 10000 ∧ 0 ≤ xx.d ∧ xx.d ≤ 10000) := ⟨hcr, by omega, by omega, by omega, by omega⟩
      clear hr3 hxx hcr hxok
      obtain ⟨xc, xh, xt, xd, xi, xp⟩ := xx
      dsimp only at cxt cxd
      have hki : (k : Int) < (set.length : Int) := by omega
      have hbc0 : ¬ bc = 0 := by omega
      have hi1 : (i : Int) ≤ (bc : Int) := by omega
      have hit : ((i : Int)).toNat = i := Int.toNat_natCast i
      go_upto_region 14 with fail
      clear c0 c1
      generalize (wr.alloc (.cells #[.int .i64 (k : Int), .int .i64 xa] 33)) = w4 at *
      obtain ⟨cg, hcg⟩ : ∃ cg, wr.heap.size = cg := ⟨_, rfl⟩
      rw [hcg] at cg0 cg1 cl0 ⊢
      clear hcg
      go_wp2_with fail
      go_loopw [78] (fun jv wq => ∃ j : Nat, j ≤ i ∧ jv = .int .i64 (j : Int) ∧ Below w4.heap.size w4 wq ∧ ∀ q cq, q < j → cs[q]? = some cq → cq.k = (k : Int) → cq.a + xt ≤ xa) (fun jv _ => i - (intOf jv).toNat)
      case atStart => exact ⟨0, Nat.zero_le _, rfl, Below.refl _ _, fun q cq h => by omega⟩
      case round =>
        obtain ⟨j, hj, rfl, hb4, hap⟩ := hrel
        by_cases hji : j < i
        · obtain ⟨o, ho, -⟩ := drop_at (l := cs) (k := j) (by omega)
          obtain ⟨c0, c1⟩ := co_at (fun q u hq => below_cell (below_seq HL.out.1.bel hb4) (HL.out.2.2.2.2 q u hq)) ho
          obtain ⟨ok, oa⟩ := o
          dsimp only at c0 c1
          have hrng := HL.out.2.2.1.rng j _ hji ho
          dsimp only at hrng
          have hbn := below_seq hb4 (below_new wr (.cells #[.int .i64 ok, .int .i64 oa] 33))
          have hd0 := cells_of (l := [_, _]) (heap_alloc_new wr (.cells #[.int .i64 ok, .int .i64 oa] 33))
          have og0 := hd0.1 0 _ rfl
          have og1 := hd0.1 1 _ rfl
          have dg0 := below_cell hbn cg0
          have dg1 := below_cell hbn cg1
          have dxt := below_cell hbn cxt
          have HJ : Hid (Below w4.heap.size w4 (wr.alloc (.cells #[.int .i64 ok, .int .i64 oa] 33)) ∧ (∀ q cq, q < j → cs[q]? = some cq → cq.k = (k : Int) → cq.a + xt ≤ xa) ∧ cs[j]? = some ⟨ok, oa⟩) := ⟨hbn, hap, ho⟩
          have hjii : (j : Int) < (i : Int) := by omega
          have hdl := hd0.2.2
          clear hb4 hap ho hbn hd0
          go_upto_region 17 with fail
          clear c0 c1
          generalize (wr.alloc (.cells #[.int .i64 ok, .int .i64 oa] 33)) = w5 at *
          obtain ⟨og, hog⟩ : ∃ og, wr.heap.size = og := ⟨_, rfl⟩
          rw [hog] at og0 og1 hdl ⊢
          clear hog
          by_cases qk : ok = (k : Int)
          · subst qk
            have hsub : IntKind.i64.wrap (xa - oa) = xa - oa := by rw [IntKind.wrap_i64]; omega
            by_cases qt : xa - oa < xt
            · have qtd : decide (xa - oa < xt) = true := by simpa using qt
              refine wp_region_noPanic ?_
              refine wp_region_held_drew (S := fun w' => w'.cell? ⟨og, 0, none⟩ = some (.int .i64 (k : Int)) ∧ w'.cell? ⟨og, 1, none⟩ = some (.int .i64 oa) ∧ w'.cell? ⟨cg, 0, none⟩ = some (.int .i64 (k : Int)) ∧ w'.cell? ⟨cg, 1, none⟩ = some (.int .i64 xa) ∧ w'.cell? ⟨ab, ao + k * 6 + 2, none⟩ = some (.int .i64 xt)) (by kernel_rfl) ⟨og0, og1, dg0, dg1, dxt⟩ (fun hHeld => ?_)
              refine take_at (i := 0) (n := 82) (v := ?_) rfl rfl (by kernel_rfl) (by kernel_rfl) (by kernel_rfl) (fun _ _ _ h => h) (Or.inl ⟨by rfl, ?_⟩) (by assumption) ?_
              rotate_left 1
              · intro wz hSw
                obtain ⟨s0, s1, s2, s3, s4⟩ := hSw
                first | (go_simp; done) | (go_simp; with_reducible rfl)
              simp only [List.set_cons_zero, List.set_cons_succ]
              refine take_at (i := 1) (n := 83) (v := ?_) rfl rfl (by kernel_rfl) (by kernel_rfl) (by kernel_rfl) (fun _ _ _ h => h) (Or.inl ⟨by rfl, ?_⟩) (by assumption) ?_
              rotate_left 1
              · intro wz hSw
                obtain ⟨s0, s1, s2, s3, s4⟩ := hSw
                first | (go_simp; done) | (go_simp; with_reducible rfl)
              simp only [List.set_cons_zero, List.set_cons_succ]
              refine take_at (i := 2) (n := 84) (v := ?_) rfl rfl (by kernel_rfl) (by kernel_rfl) (by kernel_rfl) (fun _ _ _ h => h) (Or.inl ⟨by rfl, ?_⟩) (by assumption) ?_
              rotate_left 1
              · intro wz hSw
                obtain ⟨s0, s1, s2, s3, s4⟩ := hSw
                first | (go_simp; done) | (go_simp; with_reducible rfl)
              simp only [List.set_cons_zero, List.set_cons_succ]
              refine take_at (i := 3) (n := 85) (v := ?_) rfl rfl (by kernel_rfl) (by kernel_rfl) (by kernel_rfl) (fun _ _ _ h => h) (Or.inl ⟨by rfl, ?_⟩) (by assumption) ?_
              rotate_left 1
              · intro wz hSw
                obtain ⟨s0, s1, s2, s3, s4⟩ := hSw
                first | (go_simp; done) | (go_simp; with_reducible rfl)
              simp only [List.set_cons_zero, List.set_cons_succ]
              refine take_at (i := 4) (n := 86) (v := ?_) rfl rfl (by kernel_rfl) (by kernel_rfl) (by kernel_rfl) (fun _ _ _ h => h) (Or.inl ⟨by rfl, ?_⟩) (by assumption) ?_
              rotate_left 1
              · intro wz hSw
                obtain ⟨s0, s1, s2, s3, s4⟩ := hSw
                first | (go_simp; done) | (go_simp; with_reducible rfl)
              simp only [List.set_cons_zero, List.set_cons_succ]
              refine take_at (i := 5) (n := 87) (v := ?_) rfl rfl (by kernel_rfl) (by kernel_rfl) (by kernel_rfl) (fun _ _ _ h => h) (Or.inl ⟨by rfl, ?_⟩) (by assumption) ?_
              rotate_left 1
              · intro wz hSw
                obtain ⟨s0, s1, s2, s3, s4⟩ := hSw
                first | (go_simp; done) | (go_simp; with_reducible rfl)
              simp only [List.set_cons_zero, List.set_cons_succ]
              refine take_at (i := 6) (n := 88) (v := ?_) rfl rfl (by kernel_rfl) (by kernel_rfl) (by kernel_rfl) (fun _ _ _ h => h) (Or.inl ⟨by rfl, ?_⟩) (by assumption) ?_
              rotate_left 1
              · intro wz hSw
                obtain ⟨s0, s1, s2, s3, s4⟩ := hSw
                first | (go_simp; done) | (go_simp; with_reducible rfl)
              simp only [List.set_cons_zero, List.set_cons_succ]
              refine take_at (i := 7) (n := 89) (v := ?_) rfl rfl (by kernel_rfl) (by kernel_rfl) (by kernel_rfl) (fun _ _ _ h => h) (Or.inl ⟨by rfl, ?_⟩) (by assumption) ?_
              rotate_left 1
              · intro wz hSw
                obtain ⟨s0, s1, s2, s3, s4⟩ := hSw
                first | (go_simp; done) | (go_simp; with_reducible rfl)
              simp only [List.set_cons_zero, List.set_cons_succ]
              refine take_at (i := 8) (n := 90) (v := ?_) rfl rfl (by kernel_rfl) (by kernel_rfl) (by kernel_rfl) (fun _ _ _ h => h) (Or.inl ⟨by rfl, ?_⟩) (by assumption) ?_
              rotate_left 1
              · intro wz hSw
                obtain ⟨s0, s1, s2, s3, s4⟩ := hSw
                first | (go_simp; done) | (go_simp; with_reducible rfl)
              simp only [List.set_cons_zero, List.set_cons_succ]
              refine take_at (i := 9) (n := 91) (v := ?_) rfl rfl (by kernel_rfl) (by kernel_rfl) (by kernel_rfl) (fun _ _ _ h => h) (Or.inl ⟨by rfl, ?_⟩) (by assumption) ?_
              rotate_left 1
              · intro wz hSw
                obtain ⟨s0, s1, s2, s3, s4⟩ := hSw
                first | (go_simp; done) | (go_simp; with_reducible rfl)
              simp only [List.set_cons_zero, List.set_cons_succ]
              refine take_at (i := 10) (n := 92) (v := ?_) rfl rfl (by kernel_rfl) (by kernel_rfl) (by kernel_rfl) (fun _ _ _ h => h) (Or.inl ⟨by rfl, ?_⟩) (by assumption) ?_
              rotate_left 1
              · intro wz hSw
                obtain ⟨s0, s1, s2, s3, s4⟩ := hSw
                first | (go_simp; done) | (go_simp; with_reducible rfl)
              simp only [List.set_cons_zero, List.set_cons_succ]
              refine take_at (i := 11) (n := 93) (v := ?_) rfl rfl (by kernel_rfl) (by kernel_rfl) (by kernel_rfl) (fun _ _ _ h => h) (Or.inl ⟨by rfl, ?_⟩) (by assumption) ?_
              rotate_left 1
              · intro wz hSw
                obtain ⟨s0, s1, s2, s3, s4⟩ := hSw
                first | (go_simp; done) | (go_simp; with_reducible rfl)
              simp only [List.set_cons_zero, List.set_cons_succ]
              refine take_at (i := 12) (n := 94) (v := ?_) rfl rfl (by kernel_rfl) (by kernel_rfl) (by kernel_rfl) (fun _ _ _ h => h) (Or.inl ⟨by rfl, ?_⟩) (by assumption) ?_
              rotate_left 1
              · intro wz hSw
                obtain ⟨s0, s1, s2, s3, s4⟩ := hSw
                first | (go_simp; done) | (go_simp; with_reducible rfl)
              simp only [List.set_cons_zero, List.set_cons_succ]
              refine take_at (i := 13) (n := 95) (v := ?_) rfl rfl (by kernel_rfl) (by kernel_rfl) (by kernel_rfl) (fun _ _ _ h => h) (Or.inl ⟨by rfl, ?_⟩) (by assumption) ?_
              rotate_left 1
              · intro wz hSw
                obtain ⟨s0, s1, s2, s3, s4⟩ := hSw
                first | (go_simp; done) | (go_simp; with_reducible rfl)
              simp only [List.set_cons_zero, List.set_cons_succ]
              refine take_at (i := 14) (n := 96) (v := ?_) rfl rfl (by kernel_rfl) (by kernel_rfl) (by kernel_rfl) (fun _ _ _ h => h) (Or.inl ⟨by rfl, ?_⟩) (by assumption) ?_
              rotate_left 1
              · intro wz hSw
                obtain ⟨s0, s1, s2, s3, s4⟩ := hSw
                first | (go_simp; done) | (go_simp; with_reducible rfl)
              simp only [List.set_cons_zero, List.set_cons_succ]
              refine take_at (i := 15) (n := 97) (v := ?_) rfl rfl (by kernel_rfl) (by kernel_rfl) (by kernel_rfl) (fun _ _ _ h => h) (Or.inl ⟨by rfl, ?_⟩) (by assumption) ?_
              rotate_left 1
              · intro wz hSw
                obtain ⟨s0, s1, s2, s3, s4⟩ := hSw
                first | (go_simp; done) | (go_simp; with_reducible rfl)
              simp only [List.set_cons_zero, List.set_cons_succ]
              refine take_at (i := 16) (n := 98) (v := ?_) rfl rfl (by kernel_rfl) (by kernel_rfl) (by kernel_rfl) (fun _ _ _ h => h) (Or.inl ⟨by rfl, ?_⟩) (by assumption) ?_
              rotate_left 1
              · intro wz hSw
                obtain ⟨s0, s1, s2, s3, s4⟩ := hSw
                first | (go_simp; done) | (go_simp; with_reducible rfl)
              simp only [List.set_cons_zero, List.set_cons_succ]
              refine take_at (i := 17) (n := 99) (v := ?_) rfl rfl (by kernel_rfl) (by kernel_rfl) (by kernel_rfl) (fun _ _ _ h => h) (Or.inl ⟨by rfl, ?_⟩) (by assumption) ?_
              rotate_left 1
              · intro wz hSw
                obtain ⟨s0, s1, s2, s3, s4⟩ := hSw
                first | (go_simp; done) | (go_simp; with_reducible rfl)
              simp only [List.set_cons_zero, List.set_cons_succ]
              refine take_at (i := 18) (n := 100) (v := ?_) rfl rfl (by kernel_rfl) (by kernel_rfl) (by kernel_rfl) (fun _ _ _ h => h) (Or.inl ⟨by rfl, ?_⟩) (by assumption) ?_
              rotate_left 1
              · intro wz hSw
                obtain ⟨s0, s1, s2, s3, s4⟩ := hSw
                first | (go_simp; done) | (go_simp; with_reducible rfl)
              simp only [List.set_cons_zero, List.set_cons_succ]
              refine wpAnyH_done (by kernel_rfl) ?_ _
              refine NoPanic.normal ?_
              clear hHeld
              go_wp2_with fail
              go_ret
              exact ⟨rfl, (below_seq HL.out.1.bel HJ.out.1).drew⟩
            · have qtd : decide (xa - oa < xt) = false := by simpa using qt
              refine wp_region_noPanic ?_
              refine wp_region_held_drew (S := fun w' => w'.cell? ⟨og, 0, none⟩ = some (.int .i64 (k : Int)) ∧ w'.cell? ⟨og, 1, none⟩ = some (.int .i64 oa) ∧ w'.cell? ⟨cg, 0, none⟩ = some (.int .i64 (k : Int)) ∧ w'.cell? ⟨cg, 1, none⟩ = some (.int .i64 xa) ∧ w'.cell? ⟨ab, ao + k * 6 + 2, none⟩ = some (.int .i64 xt)) (by kernel_rfl) ⟨og0, og1, dg0, dg1, dxt⟩ (fun hHeld => ?_)
              refine take_at (i := 0) (n := 82) (v := ?_) rfl rfl (by kernel_rfl) (by kernel_rfl) (by kernel_rfl) (fun _ _ _ h => h) (Or.inl ⟨by rfl, ?_⟩) (by assumption) ?_
              rotate_left 1
              · intro wz hSw
                obtain ⟨s0, s1, s2, s3, s4⟩ := hSw
                first | (go_simp; done) | (go_simp; with_reducible rfl)
              simp only [List.set_cons_zero, List.set_cons_succ]
              refine take_at (i := 1) (n := 83) (v := ?_) rfl rfl (by kernel_rfl) (by kernel_rfl) (by kernel_rfl) (fun _ _ _ h => h) (Or.inl ⟨by rfl, ?_⟩) (by assumption) ?_
              rotate_left 1
              · intro wz hSw
                obtain ⟨s0, s1, s2, s3, s4⟩ := hSw
                first | (go_simp; done) | (go_simp; with_reducible rfl)
              simp only [List.set_cons_zero, List.set_cons_succ]
              refine take_at (i := 2) (n := 84) (v := ?_) rfl rfl (by kernel_rfl) (by kernel_rfl) (by kernel_rfl) (fun _ _ _ h => h) (Or.inl ⟨by rfl, ?_⟩) (by assumption) ?_
              rotate_left 1
              · intro wz hSw
                obtain ⟨s0, s1, s2, s3, s4⟩ := hSw
                first | (go_simp; done) | (go_simp; with_reducible rfl)
              simp only [List.set_cons_zero, List.set_cons_succ]
              refine take_at (i := 3) (n := 85) (v := ?_) rfl rfl (by kernel_rfl) (by kernel_rfl) (by kernel_rfl) (fun _ _ _ h => h) (Or.inl ⟨by rfl, ?_⟩) (by assumption) ?_
              rotate_left 1
              · intro wz hSw
                obtain ⟨s0, s1, s2, s3, s4⟩ := hSw
                first | (go_simp; done) | (go_simp; with_reducible rfl)
              simp only [List.set_cons_zero, List.set_cons_succ]
              refine take_at (i := 4) (n := 86) (v := ?_) rfl rfl (by kernel_rfl) (by kernel_rfl) (by kernel_rfl) (fun _ _ _ h => h) (Or.inl ⟨by rfl, ?_⟩) (by assumption) ?_
              rotate_left 1
              · intro wz hSw
                obtain ⟨s0, s1, s2, s3, s4⟩ := hSw
                first | (go_simp; done) | (go_simp; with_reducible rfl)
              simp only [List.set_cons_zero, List.set_cons_succ]
              refine take_at (i := 5) (n := 87) (v := ?_) rfl rfl (by kernel_rfl) (by kernel_rfl) (by kernel_rfl) (fun _ _ _ h => h) (Or.inl ⟨by rfl, ?_⟩) (by assumption) ?_
              rotate_left 1
              · intro wz hSw
                obtain ⟨s0, s1, s2, s3, s4⟩ := hSw
                first | (go_simp; done) | (go_simp; with_reducible rfl)
              simp only [List.set_cons_zero, List.set_cons_succ]
              refine take_at (i := 6) (n := 88) (v := ?_) rfl rfl (by kernel_rfl) (by kernel_rfl) (by kernel_rfl) (fun _ _ _ h => h) (Or.inl ⟨by rfl, ?_⟩) (by assumption) ?_
              rotate_left 1
              · intro wz hSw
                obtain ⟨s0, s1, s2, s3, s4⟩ := hSw
                first | (go_simp; done) | (go_simp; with_reducible rfl)
              simp only [List.set_cons_zero, List.set_cons_succ]
              refine take_at (i := 7) (n := 89) (v := ?_) rfl rfl (by kernel_rfl) (by kernel_rfl) (by kernel_rfl) (fun _ _ _ h => h) (Or.inl ⟨by rfl, ?_⟩) (by assumption) ?_
              rotate_left 1
              · intro wz hSw
                obtain ⟨s0, s1, s2, s3, s4⟩ := hSw
                first | (go_simp; done) | (go_simp; with_reducible rfl)
              simp only [List.set_cons_zero, List.set_cons_succ]
              refine take_at (i := 8) (n := 90) (v := ?_) rfl rfl (by kernel_rfl) (by kernel_rfl) (by kernel_rfl) (fun _ _ _ h => h) (Or.inl ⟨by rfl, ?_⟩) (by assumption) ?_
              rotate_left 1
              · intro wz hSw
                obtain ⟨s0, s1, s2, s3, s4⟩ := hSw
                first | (go_simp; done) | (go_simp; with_reducible rfl)
              simp only [List.set_cons_zero, List.set_cons_succ]
              refine take_at (i := 9) (n := 91) (v := ?_) rfl rfl (by kernel_rfl) (by kernel_rfl) (by kernel_rfl) (fun _ _ _ h => h) (Or.inl ⟨by rfl, ?_⟩) (by assumption) ?_
              rotate_left 1
              · intro wz hSw
                obtain ⟨s0, s1, s2, s3, s4⟩ := hSw
                first | (go_simp; done) | (go_simp; with_reducible rfl)
              simp only [List.set_cons_zero, List.set_cons_succ]
              refine take_at (i := 10) (n := 92) (v := ?_) rfl rfl (by kernel_rfl) (by kernel_rfl) (by kernel_rfl) (fun _ _ _ h => h) (Or.inl ⟨by rfl, ?_⟩) (by assumption) ?_
              rotate_left 1
              · intro wz hSw
                obtain ⟨s0, s1, s2, s3, s4⟩ := hSw
                first | (go_simp; done) | (go_simp; with_reducible rfl)
              simp only [List.set_cons_zero, List.set_cons_succ]
              refine take_at (i := 11) (n := 93) (v := ?_) rfl rfl (by kernel_rfl) (by kernel_rfl) (by kernel_rfl) (fun _ _ _ h => h) (Or.inl ⟨by rfl, ?_⟩) (by assumption) ?_
              rotate_left 1
              · intro wz hSw
                obtain ⟨s0, s1, s2, s3, s4⟩ := hSw
                first | (go_simp; done) | (go_simp; with_reducible rfl)
              simp only [List.set_cons_zero, List.set_cons_succ]
              refine take_at (i := 12) (n := 94) (v := ?_) rfl rfl (by kernel_rfl) (by kernel_rfl) (by kernel_rfl) (fun _ _ _ h => h) (Or.inl ⟨by rfl, ?_⟩) (by assumption) ?_
              rotate_left 1
              · intro wz hSw
                obtain ⟨s0, s1, s2, s3, s4⟩ := hSw
                first | (go_simp; done) | (go_simp; with_reducible rfl)
              simp only [List.set_cons_zero, List.set_cons_succ]
              refine take_at (i := 13) (n := 95) (v := ?_) rfl rfl (by kernel_rfl) (by kernel_rfl) (by kernel_rfl) (fun _ _ _ h => h) (Or.inl ⟨by rfl, ?_⟩) (by assumption) ?_
              rotate_left 1
              · intro wz hSw
                obtain ⟨s0, s1, s2, s3, s4⟩ := hSw
                first | (go_simp; done) | (go_simp; with_reducible rfl)
              simp only [List.set_cons_zero, List.set_cons_succ]
              refine take_at (i := 14) (n := 96) (v := ?_) rfl rfl (by kernel_rfl) (by kernel_rfl) (by kernel_rfl) (fun _ _ _ h => h) (Or.inl ⟨by rfl, ?_⟩) (by assumption) ?_
              rotate_left 1
              · intro wz hSw
                obtain ⟨s0, s1, s2, s3, s4⟩ := hSw
                first | (go_simp; done) | (go_simp; with_reducible rfl)
              simp only [List.set_cons_zero, List.set_cons_succ]
              refine take_at (i := 15) (n := 97) (v := ?_) rfl rfl (by kernel_rfl) (by kernel_rfl) (by kernel_rfl) (fun _ _ _ h => h) (Or.inl ⟨by rfl, ?_⟩) (by assumption) ?_
              rotate_left 1
              · intro wz hSw
                obtain ⟨s0, s1, s2, s3, s4⟩ := hSw
                first | (go_simp; done) | (go_simp; with_reducible rfl)
              simp only [List.set_cons_zero, List.set_cons_succ]
              refine take_at (i := 16) (n := 98) (v := ?_) rfl rfl (by kernel_rfl) (by kernel_rfl) (by kernel_rfl) (fun _ _ _ h => h) (Or.inl ⟨by rfl, ?_⟩) (by assumption) ?_
              rotate_left 1
              · intro wz hSw
                obtain ⟨s0, s1, s2, s3, s4⟩ := hSw
                first | (go_simp; done) | (go_simp; with_reducible rfl)
              simp only [List.set_cons_zero, List.set_cons_succ]
              refine take_at (i := 17) (n := 99) (v := ?_) rfl rfl (by kernel_rfl) (by kernel_rfl) (by kernel_rfl) (fun _ _ _ h => h) (Or.inl ⟨by rfl, ?_⟩) (by assumption) ?_
              rotate_left 1
              · intro wz hSw
                obtain ⟨s0, s1, s2, s3, s4⟩ := hSw
                first | (go_simp; done) | (go_simp; with_reducible rfl)
              simp only [List.set_cons_zero, List.set_cons_succ]
              refine take_at (i := 18) (n := 100) (v := ?_) rfl rfl (by kernel_rfl) (by kernel_rfl) (by kernel_rfl) (fun _ _ _ h => h) (Or.inl ⟨by rfl, ?_⟩) (by assumption) ?_
              rotate_left 1
              · intro wz hSw
                obtain ⟨s0, s1, s2, s3, s4⟩ := hSw
                first | (go_simp; done) | (go_simp; with_reducible rfl)
              simp only [List.set_cons_zero, List.set_cons_succ]
              refine wpAnyH_done (by kernel_rfl) ?_ _
              refine NoPanic.normal ?_
              clear hHeld
              go_wp2_with fail
              refine ⟨⟨j + 1, by omega, by simp, HJ.out.1.drew, fun q cq hq hcq hk => ?_⟩, by simp [intOf]; omega⟩
              by_cases e : q = j
              · subst e; rw [HJ.out.2.2] at hcq; cases hcq; show oa + xt ≤ xa; omega
              · exact HJ.out.2.1 q cq (by omega) hcq hk
          · have qkd : (ok == (k : Int)) = false := by simpa using qk
            have qkd' : decide (ok = (k : Int)) = false := by simpa using qk
            refine wp_region_noPanic ?_
            refine wp_region_held_drew (S := fun w' => w'.cell? ⟨og, 0, none⟩ = some (.int .i64 ok) ∧ w'.cell? ⟨og, 1, none⟩ = some (.int .i64 oa) ∧ w'.cell? ⟨cg, 0, none⟩ = some (.int .i64 (k : Int)) ∧ w'.cell? ⟨cg, 1, none⟩ = some (.int .i64 xa) ∧ w'.cell? ⟨ab, ao + k * 6 + 2, none⟩ = some (.int .i64 xt)) (by kernel_rfl) ⟨og0, og1, dg0, dg1, dxt⟩ (fun hHeld => ?_)
            refine take_at (i := 0) (n := 82) (v := ?_) rfl rfl (by kernel_rfl) (by kernel_rfl) (by kernel_rfl) (fun _ _ _ h => h) (Or.inl ⟨by rfl, ?_⟩) (by assumption) ?_
            rotate_left 1
            · intro wz hSw
              obtain ⟨s0, s1, s2, s3, s4⟩ := hSw
              first | (go_simp; done) | (go_simp; with_reducible rfl)
            simp only [List.set_cons_zero, List.set_cons_succ]
            refine take_at (i := 1) (n := 83) (v := ?_) rfl rfl (by kernel_rfl) (by kernel_rfl) (by kernel_rfl) (fun _ _ _ h => h) (Or.inl ⟨by rfl, ?_⟩) (by assumption) ?_
            rotate_left 1
            · intro wz hSw
              obtain ⟨s0, s1, s2, s3, s4⟩ := hSw
              first | (go_simp; done) | (go_simp; with_reducible rfl)
            simp only [List.set_cons_zero, List.set_cons_succ]
            refine take_at (i := 2) (n := 84) (v := ?_) rfl rfl (by kernel_rfl) (by kernel_rfl) (by kernel_rfl) (fun _ _ _ h => h) (Or.inl ⟨by rfl, ?_⟩) (by assumption) ?_
            rotate_left 1
            · intro wz hSw
              obtain ⟨s0, s1, s2, s3, s4⟩ := hSw
              first | (go_simp; done) | (go_simp; with_reducible rfl)
            simp only [List.set_cons_zero, List.set_cons_succ]
            refine take_at (i := 3) (n := 85) (v := ?_) rfl rfl (by kernel_rfl) (by kernel_rfl) (by kernel_rfl) (fun _ _ _ h => h) (Or.inl ⟨by rfl, ?_⟩) (by assumption) ?_
            rotate_left 1
            · intro wz hSw
              obtain ⟨s0, s1, s2, s3, s4⟩ := hSw
              first | (go_simp; done) | (go_simp; with_reducible rfl)
            simp only [List.set_cons_zero, List.set_cons_succ]
            refine take_at (i := 4) (n := 86) (v := ?_) rfl rfl (by kernel_rfl) (by kernel_rfl) (by kernel_rfl) (fun _ _ _ h => h) (Or.inl ⟨by rfl, ?_⟩) (by assumption) ?_
            rotate_left 1
            · intro wz hSw
              obtain ⟨s0, s1, s2, s3, s4⟩ := hSw
              first | (go_simp; done) | (go_simp; with_reducible rfl)
            simp only [List.set_cons_zero, List.set_cons_succ]
            refine take_at (i := 5) (n := 87) (v := ?_) rfl rfl (by kernel_rfl) (by kernel_rfl) (by kernel_rfl) (fun _ _ _ h => h) (Or.inl ⟨by rfl, ?_⟩) (by assumption) ?_
            rotate_left 1
            · intro wz hSw
              obtain ⟨s0, s1, s2, s3, s4⟩ := hSw
              first | (go_simp; done) | (go_simp; with_reducible rfl)
            simp only [List.set_cons_zero, List.set_cons_succ]
            refine take_at (i := 6) (n := 88) (v := undef) rfl rfl (by kernel_rfl) (by kernel_rfl) (by kernel_rfl) (fun _ _ _ h => h) (Or.inr ⟨by rfl, rfl⟩) (by assumption) ?_
            simp only [List.set_cons_zero, List.set_cons_succ]
            refine take_at (i := 7) (n := 89) (v := undef) rfl rfl (by kernel_rfl) (by kernel_rfl) (by kernel_rfl) (fun _ _ _ h => h) (Or.inr ⟨by rfl, rfl⟩) (by assumption) ?_
            simp only [List.set_cons_zero, List.set_cons_succ]
            refine take_at (i := 8) (n := 90) (v := undef) rfl rfl (by kernel_rfl) (by kernel_rfl) (by kernel_rfl) (fun _ _ _ h => h) (Or.inr ⟨by rfl, rfl⟩) (by assumption) ?_
            simp only [List.set_cons_zero, List.set_cons_succ]
            refine take_at (i := 9) (n := 91) (v := undef) rfl rfl (by kernel_rfl) (by kernel_rfl) (by kernel_rfl) (fun _ _ _ h => h) (Or.inr ⟨by rfl, rfl⟩) (by assumption) ?_
            simp only [List.set_cons_zero, List.set_cons_succ]
            refine take_at (i := 10) (n := 92) (v := undef) rfl rfl (by kernel_rfl) (by kernel_rfl) (by kernel_rfl) (fun _ _ _ h => h) (Or.inr ⟨by rfl, rfl⟩) (by assumption) ?_
            simp only [List.set_cons_zero, List.set_cons_succ]
            refine take_at (i := 11) (n := 93) (v := undef) rfl rfl (by kernel_rfl) (by kernel_rfl) (by kernel_rfl) (fun _ _ _ h => h) (Or.inr ⟨by rfl, rfl⟩) (by assumption) ?_
            simp only [List.set_cons_zero, List.set_cons_succ]
            refine take_at (i := 12) (n := 94) (v := undef) rfl rfl (by kernel_rfl) (by kernel_rfl) (by kernel_rfl) (fun _ _ _ h => h) (Or.inr ⟨by rfl, rfl⟩) (by assumption) ?_
            simp only [List.set_cons_zero, List.set_cons_succ]
            refine take_at (i := 13) (n := 95) (v := undef) rfl rfl (by kernel_rfl) (by kernel_rfl) (by kernel_rfl) (fun _ _ _ h => h) (Or.inr ⟨by rfl, rfl⟩) (by assumption) ?_
            simp only [List.set_cons_zero, List.set_cons_succ]
            refine take_at (i := 14) (n := 96) (v := undef) rfl rfl (by kernel_rfl) (by kernel_rfl) (by kernel_rfl) (fun _ _ _ h => h) (Or.inr ⟨by rfl, rfl⟩) (by assumption) ?_
            simp only [List.set_cons_zero, List.set_cons_succ]
            refine take_at (i := 15) (n := 97) (v := undef) rfl rfl (by kernel_rfl) (by kernel_rfl) (by kernel_rfl) (fun _ _ _ h => h) (Or.inr ⟨by rfl, rfl⟩) (by assumption) ?_
            simp only [List.set_cons_zero, List.set_cons_succ]
            refine take_at (i := 16) (n := 98) (v := undef) rfl rfl (by kernel_rfl) (by kernel_rfl) (by kernel_rfl) (fun _ _ _ h => h) (Or.inr ⟨by rfl, rfl⟩) (by assumption) ?_
            simp only [List.set_cons_zero, List.set_cons_succ]
            refine take_at (i := 17) (n := 99) (v := undef) rfl rfl (by kernel_rfl) (by kernel_rfl) (by kernel_rfl) (fun _ _ _ h => h) (Or.inr ⟨by rfl, rfl⟩) (by assumption) ?_
            simp only [List.set_cons_zero, List.set_cons_succ]
            refine take_at (i := 18) (n := 100) (v := ?_) rfl rfl (by kernel_rfl) (by kernel_rfl) (by kernel_rfl) (fun _ _ _ h => h) (Or.inl ⟨by rfl, ?_⟩) (by assumption) ?_
            rotate_left 1
            · intro wz hSw
              obtain ⟨s0, s1, s2, s3, s4⟩ := hSw
              first | (go_simp; done) | (go_simp; with_reducible rfl)
            simp only [List.set_cons_zero, List.set_cons_succ]
            refine wpAnyH_done (by kernel_rfl) ?_ _
            refine NoPanic.normal ?_
            clear hHeld
            go_wp2_with fail
            refine ⟨⟨j + 1, by omega, by simp, HJ.out.1.drew, fun q cq hq hcq hk => ?_⟩, by simp [intOf]; omega⟩
            by_cases e : q = j
            · subst e; rw [HJ.out.2.2] at hcq; cases hcq; exact absurd hk qk
            · exact HJ.out.2.1 q cq (by omega) hcq hk
        · have hje : j = i := by omega
          subst hje
          have HJ : Hid (Below w4.heap.size w4 wr ∧ (∀ q cq, q < j → cs[q]? = some cq → cq.k = (k : Int) → cq.a + xt ≤ xa)) := ⟨hb4, hap⟩
          have dg0 := below_cell hb4 cg0
          have dg1 := below_cell hb4 cg1
          have dxd := below_cell hb4 cxd
          have hadd : IntKind.i64.wrap (xa + xd) = xa + xd := by rw [IntKind.wrap_i64]; have h9 : 0 ≤ xd ∧ xd ≤ 10000 := HX.out.2.2.2; omega
          clear hb4 hap
          go_upto_region 20 with fail
          refine wp_region_noPanic ?_
          refine wp_region_held_drew (S := fun w' => w'.cell? ⟨cg, 0, none⟩ = some (.int .i64 (k : Int)) ∧ w'.cell? ⟨cg, 1, none⟩ = some (.int .i64 xa) ∧ w'.cell? ⟨ab, ao + k * 6 + 3, none⟩ = some (.int .i64 xd)) (by kernel_rfl) ⟨dg0, dg1, dxd⟩ (fun hHeld => ?_)
          refine take_at (i := 0) (n := 102) (v := ?_) rfl rfl (by kernel_rfl) (by kernel_rfl) (by kernel_rfl) (fun _ _ _ h => h) (Or.inl ⟨by rfl, ?_⟩) (by assumption) ?_
          rotate_left 1
          · intro wz hSw
            obtain ⟨s0, s1, s2⟩ := hSw
            first | (go_simp; done) | (go_simp; with_reducible rfl)
          simp only [List.set_cons_zero, List.set_cons_succ]
          refine take_at (i := 1) (n := 103) (v := ?_) rfl rfl (by kernel_rfl) (by kernel_rfl) (by kernel_rfl) (fun _ _ _ h => h) (Or.inl ⟨by rfl, ?_⟩) (by assumption) ?_
          rotate_left 1
          · intro wz hSw
            obtain ⟨s0, s1, s2⟩ := hSw
            first | (go_simp; done) | (go_simp; with_reducible rfl)
          simp only [List.set_cons_zero, List.set_cons_succ]
          refine take_at (i := 2) (n := 104) (v := ?_) rfl rfl (by kernel_rfl) (by kernel_rfl) (by kernel_rfl) (fun _ _ _ h => h) (Or.inl ⟨by rfl, ?_⟩) (by assumption) ?_
          rotate_left 1
          · intro wz hSw
            obtain ⟨s0, s1, s2⟩ := hSw
            first | (go_simp; done) | (go_simp; with_reducible rfl)
          simp only [List.set_cons_zero, List.set_cons_succ]
          refine take_at (i := 3) (n := 105) (v := ?_) rfl rfl (by kernel_rfl) (by kernel_rfl) (by kernel_rfl) (fun _ _ _ h => h) (Or.inl ⟨by rfl, ?_⟩) (by assumption) ?_
          rotate_left 1
          · intro wz hSw
            obtain ⟨s0, s1, s2⟩ := hSw
            first | (go_simp; done) | (go_simp; with_reducible rfl)
          simp only [List.set_cons_zero, List.set_cons_succ]
          refine take_at (i := 4) (n := 106) (v := ?_) rfl rfl (by kernel_rfl) (by kernel_rfl) (by kernel_rfl) (fun _ _ _ h => h) (Or.inl ⟨by rfl, ?_⟩) (by assumption) ?_
          rotate_left 1
          · intro wz hSw
            obtain ⟨s0, s1, s2⟩ := hSw
            first | (go_simp; done) | (go_simp; with_reducible rfl)
          simp only [List.set_cons_zero, List.set_cons_succ]
          refine take_at (i := 5) (n := 107) (v := ?_) rfl rfl (by kernel_rfl) (by kernel_rfl) (by kernel_rfl) (fun _ _ _ h => h) (Or.inl ⟨by rfl, ?_⟩) (by assumption) ?_
          rotate_left 1
          · intro wz hSw
            obtain ⟨s0, s1, s2⟩ := hSw
            first | (go_simp; done) | (go_simp; with_reducible rfl)
          simp only [List.set_cons_zero, List.set_cons_succ]
          refine take_at (i := 6) (n := 108) (v := ?_) rfl rfl (by kernel_rfl) (by kernel_rfl) (by kernel_rfl) (fun _ _ _ h => h) (Or.inl ⟨by rfl, ?_⟩) (by assumption) ?_
          rotate_left 1
          · intro wz hSw
            obtain ⟨s0, s1, s2⟩ := hSw
            first | (go_simp; done) | (go_simp; with_reducible rfl)
          simp only [List.set_cons_zero, List.set_cons_succ]
          refine take_at (i := 7) (n := 109) (v := ?_) rfl rfl (by kernel_rfl) (by kernel_rfl) (by kernel_rfl) (fun _ _ _ h => h) (Or.inl ⟨by rfl, ?_⟩) (by assumption) ?_
          rotate_left 1
          · intro wz hSw
            obtain ⟨s0, s1, s2⟩ := hSw
            first | (go_simp; done) | (go_simp; with_reducible rfl)
          simp only [List.set_cons_zero, List.set_cons_succ]
          refine take_at (i := 8) (n := 110) (v := ?_) rfl rfl (by kernel_rfl) (by kernel_rfl) (by kernel_rfl) (fun _ _ _ h => h) (Or.inl ⟨by rfl, ?_⟩) (by assumption) ?_
          rotate_left 1
          · intro wz hSw
            obtain ⟨s0, s1, s2⟩ := hSw
            first | (go_simp; done) | (go_simp; with_reducible rfl)
          simp only [List.set_cons_zero, List.set_cons_succ]
          refine take_at (i := 9) (n := 111) (v := ?_) rfl rfl (by kernel_rfl) (by kernel_rfl) (by kernel_rfl) (fun _ _ _ h => h) (Or.inl ⟨by rfl, ?_⟩) (by assumption) ?_
          rotate_left 1
          · intro wz hSw
            obtain ⟨s0, s1, s2⟩ := hSw
            first | (go_simp; done) | (go_simp; with_reducible rfl)
          simp only [List.set_cons_zero, List.set_cons_succ]
          refine take_at (i := 10) (n := 112) (v := ?_) rfl rfl (by kernel_rfl) (by kernel_rfl) (by kernel_rfl) (fun _ _ _ h => h) (Or.inl ⟨by rfl, ?_⟩) (by assumption) ?_
          rotate_left 1
          · intro wz hSw
            obtain ⟨s0, s1, s2⟩ := hSw
            first | (go_simp; done) | (go_simp; with_reducible rfl)
          simp only [List.set_cons_zero, List.set_cons_succ]
          refine take_at (i := 11) (n := 10) (v := ?_) rfl rfl (by kernel_rfl) (by kernel_rfl) (by kernel_rfl) (fun _ _ _ h => h) (Or.inl ⟨by rfl, ?_⟩) (by assumption) ?_
          rotate_left 1
          · intro wz hSw
            obtain ⟨s0, s1, s2⟩ := hSw
            first | (go_simp; done) | (go_simp; with_reducible rfl)
          simp only [List.set_cons_zero, List.set_cons_succ]
          refine wpAnyH_done (by kernel_rfl) ?_ _
          refine NoPanic.normal ?_
          clear hHeld
          go_wp2_with fail
          have h9 := HX.out
          refine ⟨⟨j + 1, max e (xa + xd), by omega, rfl, by simp, (HL.out.1.grow HJ.out.1).grow (Below.refl _ _).drew, (below_seq HL.out.2.1 HJ.out.1).drew, ?_⟩, by simp [intOf]; omega⟩
          have hn := HL.out.2.2.1.next (c := ⟨(k : Int), xa⟩) HL.out.2.2.2.1 (by dsimp only; omega) (fun q cq hq hcq hk => by rw [h9.1]; exact HJ.out.2 q cq hq hcq hk) (by rw [h9.1]; exact h9.2.2.2)
          rw [h9.1] at hn
          exact hn
    · have hie : i = cs.length := by omega
      subst hie
      have HL : Hid (LK w wr fb ∧ Below w3.heap.size w3 wr ∧ Seen set cs cs.length e) := ⟨hlk, hb3, hseen⟩
      have htop := hseen.top
      clear hlk hb3 hseen
      by_cases q5 : 3000 < e
      · go_wp2_with fail
        go_ret
        exact ⟨rfl, HL.out.1.bel⟩
      obtain ⟨n, rfl⟩ : ∃ n : Nat, e = (n : Int) := ⟨e.toNat, by omega⟩
      by_cases hM : (chkM set cs tk (n : Int)).1 = 0
      rotate_left 1
      · have hcode := chkM_code HC.out.1 (fun c hc => by
          obtain ⟨q, hq, eq⟩ := List.mem_iff_getElem.1 hc
          exact (HL.out.2.2.rng q c hq (by rw [List.getElem?_eq_getElem hq, eq])).1) hM
        have P1 := PlayM_bad wr set cs tk (n : Int) _ _ _ (HV.out.1.below HL.out.1.bel) (HV.out.2.1.below HL.out.1.bel) (HV.out.2.2.below HL.out.1.bel) hM
        generalize (chkM set cs tk (n : Int)).1 = z1 at *
        generalize (chkM set cs tk (n : Int)).2 = z2 at *
        have hzb : (z1 != 0) = true := by simpa using hM
        go_upto_region 25 with (go_at_call 8; refine P1.mono ?_; rintro r w6 ⟨rfl, hb6⟩; have H6 : Hid (LK w w6 fb) := HL.out.1.grow hb6; obtain ⟨qs, qf, ql⟩ := cells_of (l := [_, _]) (HL.out.1.grow hb6).f; have q0 := qs 0 _ rfl; have q1 := qs 1 _ rfl; have qf0 := qf 0; have qf1 := qf 1; clear qs qf hb6 P1)
        have hX : Below w.heap.size w (((w6.setCell ⟨fb, 0, none⟩ (.int .i64 z1)).setCell ⟨fb, 1, none⟩ (.int .i64 z2)).alloc (.cells #[.slice none 0 0, .slice none 0 0, .int .i64 0] 39)) := below_seq ((H6.out.bel.setCell (by show w.heap.size ≤ fb; exact H6.out.low) _).setCell (by show w.heap.size ≤ fb; exact H6.out.low) _) (below_new _ _)
        have hfb : (((w6.setCell ⟨fb, 0, none⟩ (.int .i64 z1)).setCell ⟨fb, 1, none⟩ (.int .i64 z2)).alloc (.cells #[.slice none 0 0, .slice none 0 0, .int .i64 0] 39)).heap[fb]? = some (.cells #[.int .i64 z1, .int .i64 z2] 29 (0, 0)) := (Below.heap_alloc _ _ _ (by have := lt_heapM H6.out.f; simpa using this)).trans (set_two H6.out.f)
        have g0 := (cells_of (l := [_, _]) hfb).1 0 _ rfl
        have HX : Hid (Below w.heap.size w (((w6.setCell ⟨fb, 0, none⟩ (.int .i64 z1)).setCell ⟨fb, 1, none⟩ (.int .i64 z2)).alloc (.cells #[.slice none 0 0, .slice none 0 0, .int .i64 0] 39))) := hX
        clear hX hfb q0 q1 qf0 qf1 ql H6
        generalize (((w6.setCell ⟨fb, 0, none⟩ (.int .i64 z1)).setCell ⟨fb, 1, none⟩ (.int .i64 z2)).alloc (.cells #[.slice none 0 0, .slice none 0 0, .int .i64 0] 39)) = X at *
        rcases hcode with rfl | rfl
        · go_wp2_with fail
          go_ret
          exact ⟨rfl, HX.out⟩
        · go_wp2_with fail
          go_ret
          exact ⟨rfl, HX.out⟩
      · have P1 := PlayM_good wr set cs tk n _ _ _ (HV.out.1.below HL.out.1.bel) (HV.out.2.1.below HL.out.1.bel) (HV.out.2.2.below HL.out.1.bel) hM
        go_upto_region 25 with (go_at_call 8; refine P1.mono ?_; rintro r w6 ⟨s, TT, rb, eb, hpl, rfl, hrb, heb, hne, hlr, hle, hb6⟩; have H6 : Hid (LK w w6 fb ∧ PlaysT (jsF set cs tk) (hiOf set cs) (fun j => (crOf set cs j).c) n s TT ∧ w6.heap[eb]? = some (.cells (s.ends.map (Value.int .i64)).toArray 3 (0, 0)) ∧ Below w3.heap.size w3 w6 ∧ eb ≠ fb) := ⟨HL.out.1.grow hb6, hpl, heb, below_seq HL.out.2.1 hb6, (by have := lt_heapM HL.out.1.f; omega)⟩; obtain ⟨qs, qf, ql⟩ := cells_of (l := [_, _]) (HL.out.1.grow hb6).f; have q0 := qs 0 _ rfl; have q1 := qs 1 _ rfl; have qf0 := qf 0; have qf1 := qf 1; clear qs qf hpl hrb heb hne hlr hle hb6 P1)
        have hX : Below w.heap.size w (((w6.setCell ⟨fb, 0, none⟩ (.int .i64 0)).setCell ⟨fb, 1, none⟩ (.int .i64 0)).alloc (.cells #[.slice (some ⟨rb, 0, none⟩) n n, .slice (some ⟨eb, 0, none⟩) cs.length cs.length, .int .i64 TT] 39)) := below_seq ((H6.out.1.bel.setCell (by show w.heap.size ≤ fb; exact H6.out.1.low) _).setCell (by show w.heap.size ≤ fb; exact H6.out.1.low) _) (below_new _ _)
        have hX3 : Below w3.heap.size w3 (((w6.setCell ⟨fb, 0, none⟩ (.int .i64 0)).setCell ⟨fb, 1, none⟩ (.int .i64 0)).alloc (.cells #[.slice (some ⟨rb, 0, none⟩) n n, .slice (some ⟨eb, 0, none⟩) cs.length cs.length, .int .i64 TT] 39)) ∨ True := .inr trivial
        have hfb : (((w6.setCell ⟨fb, 0, none⟩ (.int .i64 0)).setCell ⟨fb, 1, none⟩ (.int .i64 0)).alloc (.cells #[.slice (some ⟨rb, 0, none⟩) n n, .slice (some ⟨eb, 0, none⟩) cs.length cs.length, .int .i64 TT] 39)).heap[fb]? = some (.cells #[.int .i64 0, .int .i64 0] 29 (0, 0)) := (Below.heap_alloc _ _ _ (by have := lt_heapM H6.out.1.f; simpa using this)).trans (set_two H6.out.1.f)
        have hkeep : ∀ q, q < w6.heap.size → q ≠ fb → (((w6.setCell ⟨fb, 0, none⟩ (.int .i64 0)).setCell ⟨fb, 1, none⟩ (.int .i64 0)).alloc (.cells #[.slice (some ⟨rb, 0, none⟩) n n, .slice (some ⟨eb, 0, none⟩) cs.length cs.length, .int .i64 TT] 39)).heap[q]? = w6.heap[q]? := fun q hq hne => by
          rw [Below.heap_alloc _ _ _ (by simpa using hq), Below.heap_setCell _ _ _ _ hne, Below.heap_setCell _ _ _ _ hne]
        have hmb : (((w6.setCell ⟨fb, 0, none⟩ (.int .i64 0)).setCell ⟨fb, 1, none⟩ (.int .i64 0)).alloc (.cells #[.slice (some ⟨rb, 0, none⟩) n n, .slice (some ⟨eb, 0, none⟩) cs.length cs.length, .int .i64 TT] 39)).heap[w6.heap.size]? = some (.cells #[.slice (some ⟨rb, 0, none⟩) n n, .slice (some ⟨eb, 0, none⟩) cs.length cs.length, .int .i64 TT] 39 (0, 0)) := by have := heap_alloc_new ((w6.setCell ⟨fb, 0, none⟩ (.int .i64 0)).setCell ⟨fb, 1, none⟩ (.int .i64 0)) (.cells #[.slice (some ⟨rb, 0, none⟩) n n, .slice (some ⟨eb, 0, none⟩) cs.length cs.length, .int .i64 TT] 39); simpa using this
        have heb : (((w6.setCell ⟨fb, 0, none⟩ (.int .i64 0)).setCell ⟨fb, 1, none⟩ (.int .i64 0)).alloc (.cells #[.slice (some ⟨rb, 0, none⟩) n n, .slice (some ⟨eb, 0, none⟩) cs.length cs.length, .int .i64 TT] 39)).heap[eb]? = some (.cells (s.ends.map (Value.int .i64)).toArray 3 (0, 0)) := (hkeep eb (lt_heapM H6.out.2.2.1) H6.out.2.2.2.2).trans H6.out.2.2.1
        have hmp := modes_pure hM HC.out.2 (fun p q cp cq hpq hcp hcq hk => HL.out.2.2.apart p q cp cq hpq (List.getElem?_eq_some_iff.1 hcq).1 hcp hcq hk) (fun p c hc => HL.out.2.2.fin p c (List.getElem?_eq_some_iff.1 hc).1 hc) H6.out.2.1
        have hw3 := fun (l : List Int) (v : Value) (hr : RowSl nuV w3 l v) => rowM_keep (W := w3) (W' := (((w6.setCell ⟨fb, 0, none⟩ (.int .i64 0)).setCell ⟨fb, 1, none⟩ (.int .i64 0)).alloc (.cells #[.slice (some ⟨rb, 0, none⟩) n n, .slice (some ⟨eb, 0, none⟩) cs.length cs.length, .int .i64 TT] 39))) (fb := fb) hr (fun q hq hne => (hkeep q (Nat.lt_of_lt_of_le hq H6.out.2.2.2.1.size) hne).trans (H6.out.2.2.2.1.block q hq))
        have HX : Hid (Below w.heap.size w (((w6.setCell ⟨fb, 0, none⟩ (.int .i64 0)).setCell ⟨fb, 1, none⟩ (.int .i64 0)).alloc (.cells #[.slice (some ⟨rb, 0, none⟩) n n, .slice (some ⟨eb, 0, none⟩) cs.length cs.length, .int .i64 TT] 39)) ∧ (((w6.setCell ⟨fb, 0, none⟩ (.int .i64 0)).setCell ⟨fb, 1, none⟩ (.int .i64 0)).alloc (.cells #[.slice (some ⟨rb, 0, none⟩) n n, .slice (some ⟨eb, 0, none⟩) cs.length cs.length, .int .i64 TT] 39)).heap[w6.heap.size]? = some (.cells #[.slice (some ⟨rb, 0, none⟩) n n, .slice (some ⟨eb, 0, none⟩) cs.length cs.length, .int .i64 TT] 39 (0, 0)) ∧ (((w6.setCell ⟨fb, 0, none⟩ (.int .i64 0)).setCell ⟨fb, 1, none⟩ (.int .i64 0)).alloc (.cells #[.slice (some ⟨rb, 0, none⟩) n n, .slice (some ⟨eb, 0, none⟩) cs.length cs.length, .int .i64 TT] 39)).heap[eb]? = some (.cells (s.ends.map (Value.int .i64)).toArray 3 (0, 0)) ∧ RowSl nuV (((w6.setCell ⟨fb, 0, none⟩ (.int .i64 0)).setCell ⟨fb, 1, none⟩ (.int .i64 0)).alloc (.cells #[.slice (some ⟨rb, 0, none⟩) n n, .slice (some ⟨eb, 0, none⟩) cs.length cs.length, .int .i64 TT] 39)) (wsF set set) (.slice aad set.length aac) ∧ RowSl nuV (((w6.setCell ⟨fb, 0, none⟩ (.int .i64 0)).setCell ⟨fb, 1, none⟩ (.int .i64 0)).alloc (.cells #[.slice (some ⟨rb, 0, none⟩) n n, .slice (some ⟨eb, 0, none⟩) cs.length cs.length, .int .i64 TT] 39)) (isF set set) (.slice bad set.length bac)) := ⟨hX, hmb, heb, hw3 _ _ H3.out.2.1 H3.out.2.2.2.1, hw3 _ _ H3.out.2.2.1 H3.out.2.2.2.2⟩
        have HM : Hid (s.ends.length = cs.length ∧ ∀ i c, cs[i]? = some c → (hiOf set cs i = true → ∃ e, s.ends[i]? = some e ∧ 0 ≤ e ∧ e - c.a ≤ max (worstM set (crOf set cs i)).1 (worstM set (crOf set cs i)).2.1) ∧ ((TT < 0 ∨ c.a + (worstM set (crOf set cs i)).1 < TT) → ∃ e, s.ends[i]? = some e ∧ 0 ≤ e ∧ e - c.a ≤ (worstM set (crOf set cs i)).1)) := hmp
        have hends : ∀ e ∈ s.ends, e ≤ 20000 := playsT_ends (chkM_jobs hM) n s TT H6.out.2.1 (by omega)
        have HN : Hid (∀ e ∈ s.ends, e ≤ 20000) := hends
        have g0 := (cells_of (l := [_, _]) hfb).1 0 _ rfl
        have m1 := (cells_of (l := [_, _, _]) hmb).1 1 _ rfl
        clear hX hX3 hfb q0 q1 qf0 qf1 ql H6 hkeep hmb heb hmp hw3 hends
        generalize (((w6.setCell ⟨fb, 0, none⟩ (.int .i64 0)).setCell ⟨fb, 1, none⟩ (.int .i64 0)).alloc (.cells #[.slice (some ⟨rb, 0, none⟩) n n, .slice (some ⟨eb, 0, none⟩) cs.length cs.length, .int .i64 TT] 39)) = X at *
        generalize w6.heap.size = mb at *
        go_wp2_with fail
        go_loopw [144] (fun iv wr => ∃ i : Nat, i ≤ cs.length ∧ iv = .int .i64 (i : Int) ∧ Below X.heap.size X wr) (fun iv _ => cs.length - (intOf iv).toNat)
        case atStart => exact ⟨0, Nat.zero_le _, rfl, Below.refl _ _⟩
        case round =>
          obtain ⟨i, hi, rfl, hbX⟩ := hrel
          by_cases hil : i < cs.length
          · obtain ⟨x, hx, -⟩ := drop_at hil
            have hq1 := HV.out.2.1
            obtain ⟨bd', bc', eq, -, hbc, hrc⟩ := hq1
            cases eq
            rcases hrc with h | ⟨bb, bo, rfl, hr1⟩
            · rw [h] at hil; simp at hil
            obtain ⟨c0, c1⟩ := co_at (fun q u hq => below_cell (below_seq HX.out.1 hbX) (hr1 q u hq)) hx
            have hrng := HL.out.2.2.rng i x hil hx
            have hmod := HM.out.2 i x hx
            obtain ⟨yk, xa⟩ := x
            dsimp only at c0 c1 hrng hmod
            obtain ⟨k, rfl⟩ : ∃ k : Nat, yk = (k : Int) := ⟨yk.toNat, by omega⟩
            have hkl : k < set.length := by omega
            have hv1 := HV.out.1
            obtain ⟨ad', ac', eq, -, hac, hrs⟩ := hv1
            cases eq
            rcases hrs with h | ⟨ab, ao, rfl, hr3⟩
            · rw [h] at hkl; simp at hkl
            obtain ⟨xx, hxx⟩ : ∃ xx, set[k]? = some xx := ⟨_, List.getElem?_eq_getElem hkl⟩
            have hcr : crOf set cs i = xx := by
              unfold crOf
              rw [show cs.getD i ⟨0, 0⟩ = ⟨(k : Int), xa⟩ by rw [List.getD_eq_getElem?_getD, hx]; rfl]
              show set.getD ((k : Int)).toNat _ = xx
              rw [Int.toNat_natCast, List.getD_eq_getElem?_getD, hxx]; rfl
            unfold hiOf at hmod
            rw [hcr] at hmod
            obtain ⟨-, -, -, -, cxi, -⟩ := cr_at (fun q u hq => below_cell (below_seq HX.out.1 hbX) (hr3 q u hq)) hxx
            have hw1 := HX.out.2.2.2.1
            obtain ⟨wd', wc', eq, -, -, hrw⟩ := hw1
            rw [show (wsF set set).length = set.length by simp [wsF]] at eq
            cases eq
            rcases hrw with h | ⟨wb, wo, rfl, hr4⟩
            · have : (wsF set set).length = 0 := by rw [h]; rfl
              simp [wsF] at this
              rw [this] at hkl; simp at hkl
            have cw := below_cell hbX (nu_at hr4 (show (wsF set set)[k]? = some (worstM set xx).1 by unfold wsF; rw [List.getElem?_map, hxx]; rfl))
            have hw2 := HX.out.2.2.2.2
            obtain ⟨vd', vc', eq, -, -, hrv⟩ := hw2
            rw [show (isF set set).length = set.length by simp [isF]] at eq
            cases eq
            rcases hrv with h | ⟨vb, vo, rfl, hr5⟩
            · have : (isF set set).length = 0 := by rw [h]; rfl
              simp [isF] at this
              rw [this] at hkl; simp at hkl
            have cv := below_cell hbX (nu_at hr5 (show (isF set set)[k]? = some (worstM set xx).2.1 by unfold isF; rw [List.getElem?_map, hxx]; rfl))
            have cm := cells_of (l := [_, _, _]) ((hbX.block mb (lt_heapM HX.out.2.1)).trans HX.out.2.1)
            have cm1 := cm.1 1 _ rfl
            have cm2 := cm.1 2 _ rfl
            have ce : ∀ e, s.ends[i]? = some e → wr.cell? ⟨eb, i, none⟩ = some (.int .i64 e) := fun e he => (cells_of (l := s.ends.map (Value.int .i64)) ((hbX.block eb (lt_heapM HX.out.2.2.1)).trans HX.out.2.2.1)).1 i _ (by rw [List.getElem?_map, he]; rfl)
            have hWr := worstM_range (l := set) (HS.out xx (List.mem_of_getElem? hxx))
            obtain ⟨xc, xh, xt, xd, xi, xp⟩ := xx
            dsimp only at cxi hmod hWr
            generalize (worstM set ⟨xc, xh, xt, xd, xi, xp⟩).1 = W at *
            generalize (worstM set ⟨xc, xh, xt, xd, xi, xp⟩).2.1 = V at *
            have hbn := below_seq (below_new wr (.cells #[.int .i64 (i : Int)] 3)) (below_new _ (.cells #[.int .i64 (k : Int), .int .i64 xa] 33))
            have d0 := (cells_of (l := [_, _]) (heap_alloc_new (wr.alloc (.cells #[.int .i64 (i : Int)] 3)) (.cells #[.int .i64 (k : Int), .int .i64 xa] 33)))
            rw [show (wr.alloc (.cells #[.int .i64 (i : Int)] 3)).heap.size = wr.heap.size + 1 by simp] at d0
            have cg0 := d0.1 0 _ rfl
            have cg1 := d0.1 1 _ rfl
            have ig0 := (cells_of (l := [_]) ((Below.heap_alloc (wr.alloc (.cells #[.int .i64 (i : Int)] 3)) (.cells #[.int .i64 (k : Int), .int .i64 xa] 33) wr.heap.size (by simp)).trans (heap_alloc_new wr (.cells #[.int .i64 (i : Int)] 3)))).1 0 _ rfl
            have dxi := below_cell hbn cxi
            have dw := below_cell hbn cw
            have dv := below_cell hbn cv
            have dm1 := below_cell hbn cm1
            have dm2 := below_cell hbn cm2
            have HI : Hid (Below X.heap.size X ((wr.alloc (.cells #[.int .i64 (i : Int)] 3)).alloc (.cells #[.int .i64 (k : Int), .int .i64 xa] 33)) ∧ (∀ e, s.ends[i]? = some e → ((wr.alloc (.cells #[.int .i64 (i : Int)] 3)).alloc (.cells #[.int .i64 (k : Int), .int .i64 xa] 33)).cell? ⟨eb, i, none⟩ = some (.int .i64 e) ∧ e ≤ 20000) ∧ (xi = true → ∃ e, s.ends[i]? = some e ∧ 0 ≤ e ∧ e - xa ≤ max W V) ∧ ((TT < 0 ∨ xa + W < TT) → ∃ e, s.ends[i]? = some e ∧ 0 ≤ e ∧ e - xa ≤ W)) := ⟨below_seq hbX hbn, fun e he => ⟨below_cell hbn (ce e he), HN.out e (List.mem_of_getElem? he)⟩, hmod.1, hmod.2⟩
            have hki : (k : Int) < (set.length : Int) := by omega
            have hii : (i : Int) < (cs.length : Int) := by omega
            have hcl0 : wr.heap.size + 1 < ((wr.alloc (.cells #[.int .i64 (i : Int)] 3)).alloc (.cells #[.int .i64 (k : Int), .int .i64 xa] 33)).heap.size := by simp
            clear hr1 hr3 hr4 hr5 hxx hcr hx cw cv cm cm1 cm2 ce hmod hbX hbn d0 cxi
            go_upto_region 33 with fail
            clear c0 c1
            generalize ((wr.alloc (.cells #[.int .i64 (i : Int)] 3)).alloc (.cells #[.int .i64 (k : Int), .int .i64 xa] 33)) = W5 at *
            obtain ⟨ig, hig⟩ : ∃ ig, wr.heap.size = ig := ⟨_, rfl⟩
            rw [hig] at ig0 cg0 cg1 hcl0 ⊢
            obtain ⟨cg, hcg⟩ : ∃ cg, ig + 1 = cg := ⟨_, rfl⟩
            rw [hcg] at cg0 cg1 hcl0 ⊢
            clear hig hcg
            go_cut [171] from 150 to 170 (fun c Z => c = .bool false ∧ Below W5.heap.size W5 Z)
            case first =>
              cases xi with
              | true =>
                obtain ⟨ev, e1, e2, e3⟩ := HI.out.2.2.1 rfl
                have HD := done_any W5.drew mb ig cg eb cs.length i ev xa (max W V) dm1 ig0 (HI.out.2.1 ev e1).1 cg1 hil ⟨e2, by have := (HI.out.2.1 ev e1).2; omega⟩ ⟨by omega, by omega⟩ e3
                refine wp_region_noPanic ?_
                refine wp_region_held_drew (S := fun w' => w'.cell? ⟨cg, 0, none⟩ = some (.int .i64 (k : Int)) ∧ w'.cell? ⟨cg, 1, none⟩ = some (.int .i64 xa) ∧ w'.cell? ⟨ab, ao + k * 6 + 4, none⟩ = some (.bool true) ∧ w'.cell? ⟨wb, wo + k, none⟩ = some (.int .i64 W) ∧ w'.cell? ⟨vb, vo + k, none⟩ = some (.int .i64 V) ∧ w'.cell? ⟨mb, 2, none⟩ = some (.int .i64 TT) ∧ w'.cell? ⟨mb, 1, none⟩ = some (.slice (some ⟨eb, 0, none⟩) cs.length cs.length) ∧ w'.cell? ⟨ig, 0, none⟩ = some (.int .i64 (i : Int))) (by kernel_rfl) ⟨cg0, cg1, dxi, dw, dv, dm2, dm1, ig0⟩ (fun hHeld => ?_)
                refine take_at (i := 0) (n := 150) (v := ?_) rfl rfl (by kernel_rfl) (by kernel_rfl) (by kernel_rfl) (fun _ _ _ h => h) (Or.inl ⟨by rfl, ?_⟩) (by assumption) ?_
                rotate_left 1
                · intro wz hSw
                  obtain ⟨s0, s1, s2, s3, s4, s5, s6, s7⟩ := hSw
                  first | (go_simp; done) | (go_simp; with_reducible rfl)
                simp only [List.set_cons_zero, List.set_cons_succ]
                refine take_at (i := 1) (n := 151) (v := ?_) rfl rfl (by kernel_rfl) (by kernel_rfl) (by kernel_rfl) (fun _ _ _ h => h) (Or.inl ⟨by rfl, ?_⟩) (by assumption) ?_
                rotate_left 1
                · intro wz hSw
                  obtain ⟨s0, s1, s2, s3, s4, s5, s6, s7⟩ := hSw
                  first | (go_simp; done) | (go_simp; with_reducible rfl)
                simp only [List.set_cons_zero, List.set_cons_succ]
                refine take_at (i := 2) (n := 152) (v := ?_) rfl rfl (by kernel_rfl) (by kernel_rfl) (by kernel_rfl) (fun _ _ _ h => h) (Or.inl ⟨by rfl, ?_⟩) (by assumption) ?_
                rotate_left 1
                · intro wz hSw
                  obtain ⟨s0, s1, s2, s3, s4, s5, s6, s7⟩ := hSw
                  first | (go_simp; done) | (go_simp; with_reducible rfl)
                simp only [List.set_cons_zero, List.set_cons_succ]
                refine take_at (i := 3) (n := 153) (v := ?_) rfl rfl (by kernel_rfl) (by kernel_rfl) (by kernel_rfl) (fun _ _ _ h => h) (Or.inl ⟨by rfl, ?_⟩) (by assumption) ?_
                rotate_left 1
                · intro wz hSw
                  obtain ⟨s0, s1, s2, s3, s4, s5, s6, s7⟩ := hSw
                  first | (go_simp; done) | (go_simp; with_reducible rfl)
                simp only [List.set_cons_zero, List.set_cons_succ]
                refine take_at (i := 4) (n := 154) (v := ?_) rfl rfl (by kernel_rfl) (by kernel_rfl) (by kernel_rfl) (fun _ _ _ h => h) (Or.inl ⟨by rfl, ?_⟩) (by assumption) ?_
                rotate_left 1
                · intro wz hSw
                  obtain ⟨s0, s1, s2, s3, s4, s5, s6, s7⟩ := hSw
                  first | (go_simp; done) | (go_simp; with_reducible rfl)
                simp only [List.set_cons_zero, List.set_cons_succ]
                refine take_at (i := 5) (n := 155) (v := ?_) rfl rfl (by kernel_rfl) (by kernel_rfl) (by kernel_rfl) (fun _ _ _ h => h) (Or.inl ⟨by rfl, ?_⟩) (by assumption) ?_
                rotate_left 1
                · intro wz hSw
                  obtain ⟨s0, s1, s2, s3, s4, s5, s6, s7⟩ := hSw
                  first | (go_simp; done) | (go_simp; with_reducible rfl)
                simp only [List.set_cons_zero, List.set_cons_succ]
                refine take_at (i := 6) (n := 156) (v := ?_) rfl rfl (by kernel_rfl) (by kernel_rfl) (by kernel_rfl) (fun _ _ _ h => h) (Or.inl ⟨by rfl, ?_⟩) (by assumption) ?_
                rotate_left 1
                · intro wz hSw
                  obtain ⟨s0, s1, s2, s3, s4, s5, s6, s7⟩ := hSw
                  first | (go_simp; done) | (go_simp; with_reducible rfl)
                simp only [List.set_cons_zero, List.set_cons_succ]
                refine take_at (i := 7) (n := 157) (v := ?_) rfl rfl (by kernel_rfl) (by kernel_rfl) (by kernel_rfl) (fun _ _ _ h => h) (Or.inl ⟨by rfl, ?_⟩) (by assumption) ?_
                rotate_left 1
                · intro wz hSw
                  obtain ⟨s0, s1, s2, s3, s4, s5, s6, s7⟩ := hSw
                  first | (go_simp; done) | (go_simp; with_reducible rfl)
                simp only [List.set_cons_zero, List.set_cons_succ]
                refine take_at (i := 8) (n := 158) (v := ?_) rfl rfl (by kernel_rfl) (by kernel_rfl) (by kernel_rfl) (fun _ _ _ h => h) (Or.inl ⟨by rfl, ?_⟩) (by assumption) ?_
                rotate_left 1
                · intro wz hSw
                  obtain ⟨s0, s1, s2, s3, s4, s5, s6, s7⟩ := hSw
                  first | (go_simp; done) | (go_simp; with_reducible rfl)
                simp only [List.set_cons_zero, List.set_cons_succ]
                refine take_at (i := 9) (n := 159) (v := ?_) rfl rfl (by kernel_rfl) (by kernel_rfl) (by kernel_rfl) (fun _ _ _ h => h) (Or.inl ⟨by rfl, ?_⟩) (by assumption) ?_
                rotate_left 1
                · intro wz hSw
                  obtain ⟨s0, s1, s2, s3, s4, s5, s6, s7⟩ := hSw
                  first | (go_simp; done) | (go_simp; with_reducible rfl)
                simp only [List.set_cons_zero, List.set_cons_succ]
                refine take_at (i := 10) (n := 160) (v := ?_) rfl rfl (by kernel_rfl) (by kernel_rfl) (by kernel_rfl) (fun _ _ _ h => h) (Or.inl ⟨by rfl, ?_⟩) (by assumption) ?_
                rotate_left 1
                · intro wz hSw
                  obtain ⟨s0, s1, s2, s3, s4, s5, s6, s7⟩ := hSw
                  first | (go_simp; done) | (go_simp; with_reducible rfl)
                simp only [List.set_cons_zero, List.set_cons_succ]
                refine take_at (i := 11) (n := 161) (v := ?_) rfl rfl (by kernel_rfl) (by kernel_rfl) (by kernel_rfl) (fun _ _ _ h => h) (Or.inl ⟨by rfl, ?_⟩) (by assumption) ?_
                rotate_left 1
                · intro wz hSw
                  obtain ⟨s0, s1, s2, s3, s4, s5, s6, s7⟩ := hSw
                  first | (go_simp; done) | (go_simp; with_reducible rfl)
                simp only [List.set_cons_zero, List.set_cons_succ]
                refine take_at (i := 12) (n := 162) (v := ?_) rfl rfl (by kernel_rfl) (by kernel_rfl) (by kernel_rfl) (fun _ _ _ h => h) (Or.inl ⟨by rfl, ?_⟩) (by assumption) ?_
                rotate_left 1
                · intro wz hSw
                  obtain ⟨s0, s1, s2, s3, s4, s5, s6, s7⟩ := hSw
                  first | (go_simp; done) | (go_simp; with_reducible rfl)
                simp only [List.set_cons_zero, List.set_cons_succ]
                refine take_at (i := 13) (n := 163) (v := ?_) rfl rfl (by kernel_rfl) (by kernel_rfl) (by kernel_rfl) (fun _ _ _ h => h) (Or.inl ⟨by rfl, ?_⟩) (by assumption) ?_
                rotate_left 1
                · intro wz hSw
                  obtain ⟨s0, s1, s2, s3, s4, s5, s6, s7⟩ := hSw
                  first | (go_simp; done) | (go_simp; with_reducible rfl)
                simp only [List.set_cons_zero, List.set_cons_succ]
                refine take_at (i := 14) (n := 164) (v := ?_) rfl rfl (by kernel_rfl) (by kernel_rfl) (by kernel_rfl) (fun _ _ _ h => h) (Or.inl ⟨by rfl, ?_⟩) (by assumption) ?_
                rotate_left 1
                · intro wz hSw
                  obtain ⟨s0, s1, s2, s3, s4, s5, s6, s7⟩ := hSw
                  first | (go_simp; done) | (go_simp; with_reducible rfl)
                simp only [List.set_cons_zero, List.set_cons_succ]
                refine take_at (i := 15) (n := 165) (v := ?_) rfl rfl (by kernel_rfl) (by kernel_rfl) (by kernel_rfl) (fun _ _ _ h => h) (Or.inl ⟨by rfl, ?_⟩) (by assumption) ?_
                rotate_left 1
                · intro wz hSw
                  obtain ⟨s0, s1, s2, s3, s4, s5, s6, s7⟩ := hSw
                  first | (go_simp; done) | (go_simp; with_reducible rfl)
                simp only [List.set_cons_zero, List.set_cons_succ]
                refine take_at (i := 16) (n := 166) (v := ?_) rfl rfl (by kernel_rfl) (by kernel_rfl) (by kernel_rfl) (fun _ _ _ h => h) (Or.inl ⟨by rfl, ?_⟩) (by assumption) ?_
                rotate_left 1
                · intro wz hSw
                  obtain ⟨s0, s1, s2, s3, s4, s5, s6, s7⟩ := hSw
                  first | (go_simp; done) | (go_simp; with_reducible rfl)
                simp only [List.set_cons_zero, List.set_cons_succ]
                refine take_at (i := 17) (n := 167) (v := ?_) rfl rfl (by kernel_rfl) (by kernel_rfl) (by kernel_rfl) (fun _ _ _ h => h) (Or.inl ⟨by rfl, ?_⟩) (by assumption) ?_
                rotate_left 1
                · intro wz hSw
                  obtain ⟨s0, s1, s2, s3, s4, s5, s6, s7⟩ := hSw
                  first | (go_simp; done) | (go_simp; with_reducible rfl)
                simp only [List.set_cons_zero, List.set_cons_succ]
                refine take_at (i := 18) (n := 168) (v := ?_) rfl rfl (by kernel_rfl) (by kernel_rfl) (by kernel_rfl) (fun _ _ _ h => h) (Or.inl ⟨by rfl, ?_⟩) (by assumption) ?_
                rotate_left 1
                · intro wz hSw
                  obtain ⟨s0, s1, s2, s3, s4, s5, s6, s7⟩ := hSw
                  first | (go_simp; done) | (go_simp; with_reducible rfl)
                simp only [List.set_cons_zero, List.set_cons_succ]
                refine wpAnyH_ready (rs := [19]) (by kernel_rfl) (by simp) ?_
                refine AllReadyH.cons rfl (fun K hK => ?_) AllReadyH.nil
                go_simp
                go_wp2_with (go_at_call 9; refine HD.mono ?_; rintro r Z1 ⟨rfl, hb0⟩; have hbz := below_seq (Below.refl _ W5).drew hb0; clear hb0 HD)
                refine hK.out _ _ ⟨below_cell hbz cg0, below_cell hbz cg1, below_cell hbz dxi, below_cell hbz dw, below_cell hbz dv, below_cell hbz dm2, below_cell hbz dm1, below_cell hbz ig0⟩ (fun hHeld => ?_)
                clear hK K
                try simp only [List.set_cons_zero, List.set_cons_succ]
                refine take_at (i := 20) (n := 170) (v := ?_) rfl rfl (by kernel_rfl) (by kernel_rfl) (by kernel_rfl) (fun _ _ _ h => h) (Or.inl ⟨by rfl, ?_⟩) (by assumption) ?_
                rotate_left 1
                · intro wz hSw
                  obtain ⟨s0, s1, s2, s3, s4, s5, s6, s7⟩ := hSw
                  first | (go_simp; done) | (go_simp; with_reducible rfl)
                simp only [List.set_cons_zero, List.set_cons_succ]
                refine take_at (i := 21) (n := 171) (v := ?_) rfl rfl (by kernel_rfl) (by kernel_rfl) (by kernel_rfl) (fun _ _ _ h => h) (Or.inl ⟨by rfl, ?_⟩) (by assumption) ?_
                rotate_left 1
                · intro wz hSw
                  obtain ⟨s0, s1, s2, s3, s4, s5, s6, s7⟩ := hSw
                  first | (go_simp; done) | (go_simp; with_reducible rfl)
                simp only [List.set_cons_zero, List.set_cons_succ]
                refine wpAnyH_done (by kernel_rfl) ?_ _
                refine NoPanic.normal ?_
                clear hHeld
                go_wp2_with fail
                go_meet
                case rel => exact ⟨rfl, hbz⟩
              | false =>
                refine wp_region_noPanic ?_
                refine wp_region_held_drew (S := fun w' => w'.cell? ⟨cg, 0, none⟩ = some (.int .i64 (k : Int)) ∧ w'.cell? ⟨cg, 1, none⟩ = some (.int .i64 xa) ∧ w'.cell? ⟨ab, ao + k * 6 + 4, none⟩ = some (.bool false) ∧ w'.cell? ⟨wb, wo + k, none⟩ = some (.int .i64 W) ∧ w'.cell? ⟨vb, vo + k, none⟩ = some (.int .i64 V) ∧ w'.cell? ⟨mb, 2, none⟩ = some (.int .i64 TT) ∧ w'.cell? ⟨mb, 1, none⟩ = some (.slice (some ⟨eb, 0, none⟩) cs.length cs.length) ∧ w'.cell? ⟨ig, 0, none⟩ = some (.int .i64 (i : Int))) (by kernel_rfl) ⟨cg0, cg1, dxi, dw, dv, dm2, dm1, ig0⟩ (fun hHeld => ?_)
                refine take_at (i := 0) (n := 150) (v := ?_) rfl rfl (by kernel_rfl) (by kernel_rfl) (by kernel_rfl) (fun _ _ _ h => h) (Or.inl ⟨by rfl, ?_⟩) (by assumption) ?_
                rotate_left 1
                · intro wz hSw
                  obtain ⟨s0, s1, s2, s3, s4, s5, s6, s7⟩ := hSw
                  first | (go_simp; done) | (go_simp; with_reducible rfl)
                simp only [List.set_cons_zero, List.set_cons_succ]
                refine take_at (i := 1) (n := 151) (v := ?_) rfl rfl (by kernel_rfl) (by kernel_rfl) (by kernel_rfl) (fun _ _ _ h => h) (Or.inl ⟨by rfl, ?_⟩) (by assumption) ?_
                rotate_left 1
                · intro wz hSw
                  obtain ⟨s0, s1, s2, s3, s4, s5, s6, s7⟩ := hSw
                  first | (go_simp; done) | (go_simp; with_reducible rfl)
                simp only [List.set_cons_zero, List.set_cons_succ]
                refine take_at (i := 2) (n := 152) (v := ?_) rfl rfl (by kernel_rfl) (by kernel_rfl) (by kernel_rfl) (fun _ _ _ h => h) (Or.inl ⟨by rfl, ?_⟩) (by assumption) ?_
                rotate_left 1
                · intro wz hSw
                  obtain ⟨s0, s1, s2, s3, s4, s5, s6, s7⟩ := hSw
                  first | (go_simp; done) | (go_simp; with_reducible rfl)
                simp only [List.set_cons_zero, List.set_cons_succ]
                refine take_at (i := 3) (n := 153) (v := ?_) rfl rfl (by kernel_rfl) (by kernel_rfl) (by kernel_rfl) (fun _ _ _ h => h) (Or.inl ⟨by rfl, ?_⟩) (by assumption) ?_
                rotate_left 1
                · intro wz hSw
                  obtain ⟨s0, s1, s2, s3, s4, s5, s6, s7⟩ := hSw
                  first | (go_simp; done) | (go_simp; with_reducible rfl)
                simp only [List.set_cons_zero, List.set_cons_succ]
                refine take_at (i := 4) (n := 154) (v := ?_) rfl rfl (by kernel_rfl) (by kernel_rfl) (by kernel_rfl) (fun _ _ _ h => h) (Or.inl ⟨by rfl, ?_⟩) (by assumption) ?_
                rotate_left 1
                · intro wz hSw
                  obtain ⟨s0, s1, s2, s3, s4, s5, s6, s7⟩ := hSw
                  first | (go_simp; done) | (go_simp; with_reducible rfl)
                simp only [List.set_cons_zero, List.set_cons_succ]
                refine take_at (i := 5) (n := 155) (v := ?_) rfl rfl (by kernel_rfl) (by kernel_rfl) (by kernel_rfl) (fun _ _ _ h => h) (Or.inl ⟨by rfl, ?_⟩) (by assumption) ?_
                rotate_left 1
                · intro wz hSw
                  obtain ⟨s0, s1, s2, s3, s4, s5, s6, s7⟩ := hSw
                  first | (go_simp; done) | (go_simp; with_reducible rfl)
                simp only [List.set_cons_zero, List.set_cons_succ]
                refine take_at (i := 6) (n := 156) (v := ?_) rfl rfl (by kernel_rfl) (by kernel_rfl) (by kernel_rfl) (fun _ _ _ h => h) (Or.inl ⟨by rfl, ?_⟩) (by assumption) ?_
                rotate_left 1
                · intro wz hSw
                  obtain ⟨s0, s1, s2, s3, s4, s5, s6, s7⟩ := hSw
                  first | (go_simp; done) | (go_simp; with_reducible rfl)
                simp only [List.set_cons_zero, List.set_cons_succ]
                refine take_at (i := 7) (n := 157) (v := undef) rfl rfl (by kernel_rfl) (by kernel_rfl) (by kernel_rfl) (fun _ _ _ h => h) (Or.inr ⟨by rfl, rfl⟩) (by assumption) ?_
                simp only [List.set_cons_zero, List.set_cons_succ]
                refine take_at (i := 8) (n := 158) (v := undef) rfl rfl (by kernel_rfl) (by kernel_rfl) (by kernel_rfl) (fun _ _ _ h => h) (Or.inr ⟨by rfl, rfl⟩) (by assumption) ?_
                simp only [List.set_cons_zero, List.set_cons_succ]
                refine take_at (i := 9) (n := 159) (v := undef) rfl rfl (by kernel_rfl) (by kernel_rfl) (by kernel_rfl) (fun _ _ _ h => h) (Or.inr ⟨by rfl, rfl⟩) (by assumption) ?_
                simp only [List.set_cons_zero, List.set_cons_succ]
                refine take_at (i := 10) (n := 160) (v := undef) rfl rfl (by kernel_rfl) (by kernel_rfl) (by kernel_rfl) (fun _ _ _ h => h) (Or.inr ⟨by rfl, rfl⟩) (by assumption) ?_
                simp only [List.set_cons_zero, List.set_cons_succ]
                refine take_at (i := 11) (n := 161) (v := undef) rfl rfl (by kernel_rfl) (by kernel_rfl) (by kernel_rfl) (fun _ _ _ h => h) (Or.inr ⟨by rfl, rfl⟩) (by assumption) ?_
                simp only [List.set_cons_zero, List.set_cons_succ]
                refine take_at (i := 12) (n := 162) (v := undef) rfl rfl (by kernel_rfl) (by kernel_rfl) (by kernel_rfl) (fun _ _ _ h => h) (Or.inr ⟨by rfl, rfl⟩) (by assumption) ?_
                simp only [List.set_cons_zero, List.set_cons_succ]
                refine take_at (i := 13) (n := 163) (v := undef) rfl rfl (by kernel_rfl) (by kernel_rfl) (by kernel_rfl) (fun _ _ _ h => h) (Or.inr ⟨by rfl, rfl⟩) (by assumption) ?_
                simp only [List.set_cons_zero, List.set_cons_succ]
                refine take_at (i := 14) (n := 164) (v := undef) rfl rfl (by kernel_rfl) (by kernel_rfl) (by kernel_rfl) (fun _ _ _ h => h) (Or.inr ⟨by rfl, rfl⟩) (by assumption) ?_
                simp only [List.set_cons_zero, List.set_cons_succ]
                refine take_at (i := 15) (n := 165) (v := undef) rfl rfl (by kernel_rfl) (by kernel_rfl) (by kernel_rfl) (fun _ _ _ h => h) (Or.inr ⟨by rfl, rfl⟩) (by assumption) ?_
                simp only [List.set_cons_zero, List.set_cons_succ]
                refine take_at (i := 16) (n := 166) (v := undef) rfl rfl (by kernel_rfl) (by kernel_rfl) (by kernel_rfl) (fun _ _ _ h => h) (Or.inr ⟨by rfl, rfl⟩) (by assumption) ?_
                simp only [List.set_cons_zero, List.set_cons_succ]
                refine take_at (i := 17) (n := 167) (v := undef) rfl rfl (by kernel_rfl) (by kernel_rfl) (by kernel_rfl) (fun _ _ _ h => h) (Or.inr ⟨by rfl, rfl⟩) (by assumption) ?_
                simp only [List.set_cons_zero, List.set_cons_succ]
                refine take_at (i := 18) (n := 168) (v := undef) rfl rfl (by kernel_rfl) (by kernel_rfl) (by kernel_rfl) (fun _ _ _ h => h) (Or.inr ⟨by rfl, rfl⟩) (by assumption) ?_
                simp only [List.set_cons_zero, List.set_cons_succ]
                refine take_at (i := 19) (n := 169) (v := undef) rfl rfl (by kernel_rfl) (by kernel_rfl) (by kernel_rfl) (fun _ _ _ h => h) (Or.inr ⟨by rfl, rfl⟩) (by assumption) ?_
                simp only [List.set_cons_zero, List.set_cons_succ]
                refine take_at (i := 20) (n := 170) (v := undef) rfl rfl (by kernel_rfl) (by kernel_rfl) (by kernel_rfl) (fun _ _ _ h => h) (Or.inr ⟨by rfl, rfl⟩) (by assumption) ?_
                simp only [List.set_cons_zero, List.set_cons_succ]
                refine take_at (i := 21) (n := 171) (v := ?_) rfl rfl (by kernel_rfl) (by kernel_rfl) (by kernel_rfl) (fun _ _ _ h => h) (Or.inl ⟨by rfl, ?_⟩) (by assumption) ?_
                rotate_left 1
                · intro wz hSw
                  obtain ⟨s0, s1, s2, s3, s4, s5, s6, s7⟩ := hSw
                  first | (go_simp; done) | (go_simp; with_reducible rfl)
                simp only [List.set_cons_zero, List.set_cons_succ]
                refine wpAnyH_done (by kernel_rfl) ?_ _
                refine NoPanic.normal ?_
                clear hHeld
                go_wp2_with fail
                go_meet
                case rel => exact ⟨rfl, (Below.refl _ _).drew⟩
            case rest =>
              obtain ⟨rfl, hbZ⟩ := hcut
              refine from_K (by assumption) _ _ ?_
              have hadd : IntKind.i64.wrap (xa + W) = xa + W := by rw [IntKind.wrap_i64]; omega
              have HZ : Hid (Below X.heap.size X wc ∧ (∀ e, s.ends[i]? = some e → wc.cell? ⟨eb, i, none⟩ = some (.int .i64 e) ∧ e ≤ 20000)) := ⟨below_seq HI.out.1 hbZ, fun e he => ⟨below_cell hbZ (HI.out.2.1 e he).1, (HI.out.2.1 e he).2⟩⟩
              have eg0 := below_cell hbZ cg0
              have eg1 := below_cell hbZ cg1
              have exi := below_cell hbZ dxi
              have ew := below_cell hbZ dw
              have ev' := below_cell hbZ dv
              have em1 := below_cell hbZ dm1
              have em2 := below_cell hbZ dm2
              have ei0 := below_cell hbZ ig0
              clear cg0 cg1 dxi dw dv dm1 dm2 ig0 hbZ hcl0
              go_upto_region 35 with fail
              by_cases qT : TT < 0
              · obtain ⟨ev, e1, e2, e3⟩ := HI.out.2.2.2 (.inl qT)
                have HD := done_any wc.drew mb ig cg eb cs.length i ev xa W em1 ei0 (HZ.out.2 ev e1).1 eg1 hil ⟨e2, by have := (HZ.out.2 ev e1).2; omega⟩ ⟨by omega, by omega⟩ e3
                refine wp_region_noPanic ?_
                refine wp_region_held_drew (S := fun w' => w'.cell? ⟨cg, 0, none⟩ = some (.int .i64 (k : Int)) ∧ w'.cell? ⟨cg, 1, none⟩ = some (.int .i64 xa) ∧ w'.cell? ⟨ab, ao + k * 6 + 4, none⟩ = some (.bool xi) ∧ w'.cell? ⟨wb, wo + k, none⟩ = some (.int .i64 W) ∧ w'.cell? ⟨vb, vo + k, none⟩ = some (.int .i64 V) ∧ w'.cell? ⟨mb, 2, none⟩ = some (.int .i64 TT) ∧ w'.cell? ⟨mb, 1, none⟩ = some (.slice (some ⟨eb, 0, none⟩) cs.length cs.length) ∧ w'.cell? ⟨ig, 0, none⟩ = some (.int .i64 (i : Int))) (by kernel_rfl) ⟨eg0, eg1, exi, ew, ev', em2, em1, ei0⟩ (fun hHeld => ?_)
                refine take_at (i := 0) (n := 172) (v := ?_) rfl rfl (by kernel_rfl) (by kernel_rfl) (by kernel_rfl) (fun _ _ _ h => h) (Or.inl ⟨by rfl, ?_⟩) (by assumption) ?_
                rotate_left 1
                · intro wz hSw
                  obtain ⟨s0, s1, s2, s3, s4, s5, s6, s7⟩ := hSw
                  first | (go_simp; done) | (go_simp; with_reducible rfl)
                simp only [List.set_cons_zero, List.set_cons_succ]
                refine take_at (i := 1) (n := 173) (v := ?_) rfl rfl (by kernel_rfl) (by kernel_rfl) (by kernel_rfl) (fun _ _ _ h => h) (Or.inl ⟨by rfl, ?_⟩) (by assumption) ?_
                rotate_left 1
                · intro wz hSw
                  obtain ⟨s0, s1, s2, s3, s4, s5, s6, s7⟩ := hSw
                  first | (go_simp; done) | (go_simp; with_reducible rfl)
                simp only [List.set_cons_zero, List.set_cons_succ]
                refine take_at (i := 2) (n := 174) (v := ?_) rfl rfl (by kernel_rfl) (by kernel_rfl) (by kernel_rfl) (fun _ _ _ h => h) (Or.inl ⟨by rfl, ?_⟩) (by assumption) ?_
                rotate_left 1
                · intro wz hSw
                  obtain ⟨s0, s1, s2, s3, s4, s5, s6, s7⟩ := hSw
                  first | (go_simp; done) | (go_simp; with_reducible rfl)
                simp only [List.set_cons_zero, List.set_cons_succ]
                refine take_at (i := 3) (n := 175) (v := ?_) rfl rfl (by kernel_rfl) (by kernel_rfl) (by kernel_rfl) (fun _ _ _ h => h) (Or.inl ⟨by rfl, ?_⟩) (by assumption) ?_
                rotate_left 1
                · intro wz hSw
                  obtain ⟨s0, s1, s2, s3, s4, s5, s6, s7⟩ := hSw
                  first | (go_simp; done) | (go_simp; with_reducible rfl)
                simp only [List.set_cons_zero, List.set_cons_succ]
                refine take_at (i := 4) (n := 176) (v := undef) rfl rfl (by kernel_rfl) (by kernel_rfl) (by kernel_rfl) (fun _ _ _ h => h) (Or.inr ⟨by rfl, rfl⟩) (by assumption) ?_
                simp only [List.set_cons_zero, List.set_cons_succ]
                refine take_at (i := 5) (n := 177) (v := undef) rfl rfl (by kernel_rfl) (by kernel_rfl) (by kernel_rfl) (fun _ _ _ h => h) (Or.inr ⟨by rfl, rfl⟩) (by assumption) ?_
                simp only [List.set_cons_zero, List.set_cons_succ]
                refine take_at (i := 6) (n := 178) (v := undef) rfl rfl (by kernel_rfl) (by kernel_rfl) (by kernel_rfl) (fun _ _ _ h => h) (Or.inr ⟨by rfl, rfl⟩) (by assumption) ?_
                simp only [List.set_cons_zero, List.set_cons_succ]
                refine take_at (i := 7) (n := 179) (v := undef) rfl rfl (by kernel_rfl) (by kernel_rfl) (by kernel_rfl) (fun _ _ _ h => h) (Or.inr ⟨by rfl, rfl⟩) (by assumption) ?_
                simp only [List.set_cons_zero, List.set_cons_succ]
                refine take_at (i := 8) (n := 180) (v := undef) rfl rfl (by kernel_rfl) (by kernel_rfl) (by kernel_rfl) (fun _ _ _ h => h) (Or.inr ⟨by rfl, rfl⟩) (by assumption) ?_
                simp only [List.set_cons_zero, List.set_cons_succ]
                refine take_at (i := 9) (n := 181) (v := undef) rfl rfl (by kernel_rfl) (by kernel_rfl) (by kernel_rfl) (fun _ _ _ h => h) (Or.inr ⟨by rfl, rfl⟩) (by assumption) ?_
                simp only [List.set_cons_zero, List.set_cons_succ]
                refine take_at (i := 10) (n := 182) (v := undef) rfl rfl (by kernel_rfl) (by kernel_rfl) (by kernel_rfl) (fun _ _ _ h => h) (Or.inr ⟨by rfl, rfl⟩) (by assumption) ?_
                simp only [List.set_cons_zero, List.set_cons_succ]
                refine take_at (i := 11) (n := 183) (v := undef) rfl rfl (by kernel_rfl) (by kernel_rfl) (by kernel_rfl) (fun _ _ _ h => h) (Or.inr ⟨by rfl, rfl⟩) (by assumption) ?_
                simp only [List.set_cons_zero, List.set_cons_succ]
                refine take_at (i := 12) (n := 184) (v := undef) rfl rfl (by kernel_rfl) (by kernel_rfl) (by kernel_rfl) (fun _ _ _ h => h) (Or.inr ⟨by rfl, rfl⟩) (by assumption) ?_
                simp only [List.set_cons_zero, List.set_cons_succ]
                refine take_at (i := 13) (n := 185) (v := undef) rfl rfl (by kernel_rfl) (by kernel_rfl) (by kernel_rfl) (fun _ _ _ h => h) (Or.inr ⟨by rfl, rfl⟩) (by assumption) ?_
                simp only [List.set_cons_zero, List.set_cons_succ]
                refine take_at (i := 14) (n := 186) (v := undef) rfl rfl (by kernel_rfl) (by kernel_rfl) (by kernel_rfl) (fun _ _ _ h => h) (Or.inr ⟨by rfl, rfl⟩) (by assumption) ?_
                simp only [List.set_cons_zero, List.set_cons_succ]
                refine take_at (i := 15) (n := 187) (v := ?_) rfl rfl (by kernel_rfl) (by kernel_rfl) (by kernel_rfl) (fun _ _ _ h => h) (Or.inl ⟨by rfl, ?_⟩) (by assumption) ?_
                rotate_left 1
                · intro wz hSw
                  obtain ⟨s0, s1, s2, s3, s4, s5, s6, s7⟩ := hSw
                  first | (go_simp; done) | (go_simp; with_reducible rfl)
                simp only [List.set_cons_zero, List.set_cons_succ]
                refine take_at (i := 16) (n := 188) (v := ?_) rfl rfl (by kernel_rfl) (by kernel_rfl) (by kernel_rfl) (fun _ _ _ h => h) (Or.inl ⟨by rfl, ?_⟩) (by assumption) ?_
                rotate_left 1
                · intro wz hSw
                  obtain ⟨s0, s1, s2, s3, s4, s5, s6, s7⟩ := hSw
                  first | (go_simp; done) | (go_simp; with_reducible rfl)
                simp only [List.set_cons_zero, List.set_cons_succ]
                refine take_at (i := 17) (n := 189) (v := ?_) rfl rfl (by kernel_rfl) (by kernel_rfl) (by kernel_rfl) (fun _ _ _ h => h) (Or.inl ⟨by rfl, ?_⟩) (by assumption) ?_
                rotate_left 1
                · intro wz hSw
                  obtain ⟨s0, s1, s2, s3, s4, s5, s6, s7⟩ := hSw
                  first | (go_simp; done) | (go_simp; with_reducible rfl)
                simp only [List.set_cons_zero, List.set_cons_succ]
                refine take_at (i := 18) (n := 190) (v := ?_) rfl rfl (by kernel_rfl) (by kernel_rfl) (by kernel_rfl) (fun _ _ _ h => h) (Or.inl ⟨by rfl, ?_⟩) (by assumption) ?_
                rotate_left 1
                · intro wz hSw
                  obtain ⟨s0, s1, s2, s3, s4, s5, s6, s7⟩ := hSw
                  first | (go_simp; done) | (go_simp; with_reducible rfl)
                simp only [List.set_cons_zero, List.set_cons_succ]
                refine take_at (i := 19) (n := 191) (v := ?_) rfl rfl (by kernel_rfl) (by kernel_rfl) (by kernel_rfl) (fun _ _ _ h => h) (Or.inl ⟨by rfl, ?_⟩) (by assumption) ?_
                rotate_left 1
                · intro wz hSw
                  obtain ⟨s0, s1, s2, s3, s4, s5, s6, s7⟩ := hSw
                  first | (go_simp; done) | (go_simp; with_reducible rfl)
                simp only [List.set_cons_zero, List.set_cons_succ]
                refine take_at (i := 20) (n := 192) (v := ?_) rfl rfl (by kernel_rfl) (by kernel_rfl) (by kernel_rfl) (fun _ _ _ h => h) (Or.inl ⟨by rfl, ?_⟩) (by assumption) ?_
                rotate_left 1
                · intro wz hSw
                  obtain ⟨s0, s1, s2, s3, s4, s5, s6, s7⟩ := hSw
                  first | (go_simp; done) | (go_simp; with_reducible rfl)
                simp only [List.set_cons_zero, List.set_cons_succ]
                refine take_at (i := 21) (n := 193) (v := ?_) rfl rfl (by kernel_rfl) (by kernel_rfl) (by kernel_rfl) (fun _ _ _ h => h) (Or.inl ⟨by rfl, ?_⟩) (by assumption) ?_
                rotate_left 1
                · intro wz hSw
                  obtain ⟨s0, s1, s2, s3, s4, s5, s6, s7⟩ := hSw
                  first | (go_simp; done) | (go_simp; with_reducible rfl)
                simp only [List.set_cons_zero, List.set_cons_succ]
                refine take_at (i := 22) (n := 194) (v := ?_) rfl rfl (by kernel_rfl) (by kernel_rfl) (by kernel_rfl) (fun _ _ _ h => h) (Or.inl ⟨by rfl, ?_⟩) (by assumption) ?_
                rotate_left 1
                · intro wz hSw
                  obtain ⟨s0, s1, s2, s3, s4, s5, s6, s7⟩ := hSw
                  first | (go_simp; done) | (go_simp; with_reducible rfl)
                simp only [List.set_cons_zero, List.set_cons_succ]
                refine wpAnyH_ready (rs := [23]) (by kernel_rfl) (by simp) ?_
                refine AllReadyH.cons rfl (fun K hK => ?_) AllReadyH.nil
                go_simp
                go_wp2_with (go_at_call 9; refine HD.mono ?_; rintro r Z1 ⟨rfl, hb0⟩; have hbz := below_seq (Below.refl _ wc).drew hb0; clear hb0 HD)
                refine hK.out _ _ ⟨below_cell hbz eg0, below_cell hbz eg1, below_cell hbz exi, below_cell hbz ew, below_cell hbz ev', below_cell hbz em2, below_cell hbz em1, below_cell hbz ei0⟩ (fun hHeld => ?_)
                clear hK K
                try simp only [List.set_cons_zero, List.set_cons_succ]
                refine take_at (i := 24) (n := 196) (v := ?_) rfl rfl (by kernel_rfl) (by kernel_rfl) (by kernel_rfl) (fun _ _ _ h => h) (Or.inl ⟨by rfl, ?_⟩) (by assumption) ?_
                rotate_left 1
                · intro wz hSw
                  obtain ⟨s0, s1, s2, s3, s4, s5, s6, s7⟩ := hSw
                  first | (go_simp; done) | (go_simp; with_reducible rfl)
                simp only [List.set_cons_zero, List.set_cons_succ]
                refine take_at (i := 25) (n := 197) (v := ?_) rfl rfl (by kernel_rfl) (by kernel_rfl) (by kernel_rfl) (fun _ _ _ h => h) (Or.inl ⟨by rfl, ?_⟩) (by assumption) ?_
                rotate_left 1
                · intro wz hSw
                  obtain ⟨s0, s1, s2, s3, s4, s5, s6, s7⟩ := hSw
                  first | (go_simp; done) | (go_simp; with_reducible rfl)
                simp only [List.set_cons_zero, List.set_cons_succ]
                refine wpAnyH_done (by kernel_rfl) ?_ _
                refine NoPanic.normal ?_
                clear hHeld
                go_wp2_with fail
                exact ⟨⟨i + 1, by omega, by simp, below_seq HZ.out.1 hbz⟩, by simp [intOf]; omega⟩
              · by_cases qW : xa + W < TT
                · have qWd : decide (xa + W < TT) = true := by simpa using qW
                  obtain ⟨ev, e1, e2, e3⟩ := HI.out.2.2.2 (.inr qW)
                  have HD := done_any wc.drew mb ig cg eb cs.length i ev xa W em1 ei0 (HZ.out.2 ev e1).1 eg1 hil ⟨e2, by have := (HZ.out.2 ev e1).2; omega⟩ ⟨by omega, by omega⟩ e3
                  refine wp_region_noPanic ?_
                  refine wp_region_held_drew (S := fun w' => w'.cell? ⟨cg, 0, none⟩ = some (.int .i64 (k : Int)) ∧ w'.cell? ⟨cg, 1, none⟩ = some (.int .i64 xa) ∧ w'.cell? ⟨ab, ao + k * 6 + 4, none⟩ = some (.bool xi) ∧ w'.cell? ⟨wb, wo + k, none⟩ = some (.int .i64 W) ∧ w'.cell? ⟨vb, vo + k, none⟩ = some (.int .i64 V) ∧ w'.cell? ⟨mb, 2, none⟩ = some (.int .i64 TT) ∧ w'.cell? ⟨mb, 1, none⟩ = some (.slice (some ⟨eb, 0, none⟩) cs.length cs.length) ∧ w'.cell? ⟨ig, 0, none⟩ = some (.int .i64 (i : Int))) (by kernel_rfl) ⟨eg0, eg1, exi, ew, ev', em2, em1, ei0⟩ (fun hHeld => ?_)
                  refine take_at (i := 0) (n := 172) (v := ?_) rfl rfl (by kernel_rfl) (by kernel_rfl) (by kernel_rfl) (fun _ _ _ h => h) (Or.inl ⟨by rfl, ?_⟩) (by assumption) ?_
                  rotate_left 1
                  · intro wz hSw
                    obtain ⟨s0, s1, s2, s3, s4, s5, s6, s7⟩ := hSw
                    first | (go_simp; done) | (go_simp; with_reducible rfl)
                  simp only [List.set_cons_zero, List.set_cons_succ]
                  refine take_at (i := 1) (n := 173) (v := ?_) rfl rfl (by kernel_rfl) (by kernel_rfl) (by kernel_rfl) (fun _ _ _ h => h) (Or.inl ⟨by rfl, ?_⟩) (by assumption) ?_
                  rotate_left 1
                  · intro wz hSw
                    obtain ⟨s0, s1, s2, s3, s4, s5, s6, s7⟩ := hSw
                    first | (go_simp; done) | (go_simp; with_reducible rfl)
                  simp only [List.set_cons_zero, List.set_cons_succ]
                  refine take_at (i := 2) (n := 174) (v := ?_) rfl rfl (by kernel_rfl) (by kernel_rfl) (by kernel_rfl) (fun _ _ _ h => h) (Or.inl ⟨by rfl, ?_⟩) (by assumption) ?_
                  rotate_left 1
                  · intro wz hSw
                    obtain ⟨s0, s1, s2, s3, s4, s5, s6, s7⟩ := hSw
                    first | (go_simp; done) | (go_simp; with_reducible rfl)
                  simp only [List.set_cons_zero, List.set_cons_succ]
                  refine take_at (i := 3) (n := 175) (v := ?_) rfl rfl (by kernel_rfl) (by kernel_rfl) (by kernel_rfl) (fun _ _ _ h => h) (Or.inl ⟨by rfl, ?_⟩) (by assumption) ?_
                  rotate_left 1
                  · intro wz hSw
                    obtain ⟨s0, s1, s2, s3, s4, s5, s6, s7⟩ := hSw
                    first | (go_simp; done) | (go_simp; with_reducible rfl)
                  simp only [List.set_cons_zero, List.set_cons_succ]
                  refine take_at (i := 4) (n := 176) (v := ?_) rfl rfl (by kernel_rfl) (by kernel_rfl) (by kernel_rfl) (fun _ _ _ h => h) (Or.inl ⟨by rfl, ?_⟩) (by assumption) ?_
                  rotate_left 1
                  · intro wz hSw
                    obtain ⟨s0, s1, s2, s3, s4, s5, s6, s7⟩ := hSw
                    first | (go_simp; done) | (go_simp; with_reducible rfl)
                  simp only [List.set_cons_zero, List.set_cons_succ]
                  refine take_at (i := 5) (n := 177) (v := ?_) rfl rfl (by kernel_rfl) (by kernel_rfl) (by kernel_rfl) (fun _ _ _ h => h) (Or.inl ⟨by rfl, ?_⟩) (by assumption) ?_
                  rotate_left 1
                  · intro wz hSw
                    obtain ⟨s0, s1, s2, s3, s4, s5, s6, s7⟩ := hSw
                    first | (go_simp; done) | (go_simp; with_reducible rfl)
                  simp only [List.set_cons_zero, List.set_cons_succ]
                  refine take_at (i := 6) (n := 178) (v := ?_) rfl rfl (by kernel_rfl) (by kernel_rfl) (by kernel_rfl) (fun _ _ _ h => h) (Or.inl ⟨by rfl, ?_⟩) (by assumption) ?_
                  rotate_left 1
                  · intro wz hSw
                    obtain ⟨s0, s1, s2, s3, s4, s5, s6, s7⟩ := hSw
                    first | (go_simp; done) | (go_simp; with_reducible rfl)
                  simp only [List.set_cons_zero, List.set_cons_succ]
                  refine take_at (i := 7) (n := 179) (v := ?_) rfl rfl (by kernel_rfl) (by kernel_rfl) (by kernel_rfl) (fun _ _ _ h => h) (Or.inl ⟨by rfl, ?_⟩) (by assumption) ?_
                  rotate_left 1
                  · intro wz hSw
                    obtain ⟨s0, s1, s2, s3, s4, s5, s6, s7⟩ := hSw
                    first | (go_simp; done) | (go_simp; with_reducible rfl)
                  simp only [List.set_cons_zero, List.set_cons_succ]
                  refine take_at (i := 8) (n := 180) (v := ?_) rfl rfl (by kernel_rfl) (by kernel_rfl) (by kernel_rfl) (fun _ _ _ h => h) (Or.inl ⟨by rfl, ?_⟩) (by assumption) ?_
                  rotate_left 1
                  · intro wz hSw
                    obtain ⟨s0, s1, s2, s3, s4, s5, s6, s7⟩ := hSw
                    first | (go_simp; done) | (go_simp; with_reducible rfl)
                  simp only [List.set_cons_zero, List.set_cons_succ]
                  refine take_at (i := 9) (n := 181) (v := ?_) rfl rfl (by kernel_rfl) (by kernel_rfl) (by kernel_rfl) (fun _ _ _ h => h) (Or.inl ⟨by rfl, ?_⟩) (by assumption) ?_
                  rotate_left 1
                  · intro wz hSw
                    obtain ⟨s0, s1, s2, s3, s4, s5, s6, s7⟩ := hSw
                    first | (go_simp; done) | (go_simp; with_reducible rfl)
                  simp only [List.set_cons_zero, List.set_cons_succ]
                  refine take_at (i := 10) (n := 182) (v := ?_) rfl rfl (by kernel_rfl) (by kernel_rfl) (by kernel_rfl) (fun _ _ _ h => h) (Or.inl ⟨by rfl, ?_⟩) (by assumption) ?_
                  rotate_left 1
                  · intro wz hSw
                    obtain ⟨s0, s1, s2, s3, s4, s5, s6, s7⟩ := hSw
                    first | (go_simp; done) | (go_simp; with_reducible rfl)
                  simp only [List.set_cons_zero, List.set_cons_succ]
                  refine take_at (i := 11) (n := 183) (v := ?_) rfl rfl (by kernel_rfl) (by kernel_rfl) (by kernel_rfl) (fun _ _ _ h => h) (Or.inl ⟨by rfl, ?_⟩) (by assumption) ?_
                  rotate_left 1
                  · intro wz hSw
                    obtain ⟨s0, s1, s2, s3, s4, s5, s6, s7⟩ := hSw
                    first | (go_simp; done) | (go_simp; with_reducible rfl)
                  simp only [List.set_cons_zero, List.set_cons_succ]
                  refine take_at (i := 12) (n := 184) (v := ?_) rfl rfl (by kernel_rfl) (by kernel_rfl) (by kernel_rfl) (fun _ _ _ h => h) (Or.inl ⟨by rfl, ?_⟩) (by assumption) ?_
                  rotate_left 1
                  · intro wz hSw
                    obtain ⟨s0, s1, s2, s3, s4, s5, s6, s7⟩ := hSw
                    first | (go_simp; done) | (go_simp; with_reducible rfl)
                  simp only [List.set_cons_zero, List.set_cons_succ]
                  refine take_at (i := 13) (n := 185) (v := ?_) rfl rfl (by kernel_rfl) (by kernel_rfl) (by kernel_rfl) (fun _ _ _ h => h) (Or.inl ⟨by rfl, ?_⟩) (by assumption) ?_
                  rotate_left 1
                  · intro wz hSw
                    obtain ⟨s0, s1, s2, s3, s4, s5, s6, s7⟩ := hSw
                    first | (go_simp; done) | (go_simp; with_reducible rfl)
                  simp only [List.set_cons_zero, List.set_cons_succ]
                  refine take_at (i := 14) (n := 186) (v := ?_) rfl rfl (by kernel_rfl) (by kernel_rfl) (by kernel_rfl) (fun _ _ _ h => h) (Or.inl ⟨by rfl, ?_⟩) (by assumption) ?_
                  rotate_left 1
                  · intro wz hSw
                    obtain ⟨s0, s1, s2, s3, s4, s5, s6, s7⟩ := hSw
                    first | (go_simp; done) | (go_simp; with_reducible rfl)
                  simp only [List.set_cons_zero, List.set_cons_succ]
                  refine take_at (i := 15) (n := 187) (v := ?_) rfl rfl (by kernel_rfl) (by kernel_rfl) (by kernel_rfl) (fun _ _ _ h => h) (Or.inl ⟨by rfl, ?_⟩) (by assumption) ?_
                  rotate_left 1
                  · intro wz hSw
                    obtain ⟨s0, s1, s2, s3, s4, s5, s6, s7⟩ := hSw
                    first | (go_simp; done) | (go_simp; with_reducible rfl)
                  simp only [List.set_cons_zero, List.set_cons_succ]
                  refine take_at (i := 16) (n := 188) (v := ?_) rfl rfl (by kernel_rfl) (by kernel_rfl) (by kernel_rfl) (fun _ _ _ h => h) (Or.inl ⟨by rfl, ?_⟩) (by assumption) ?_
                  rotate_left 1
                  · intro wz hSw
                    obtain ⟨s0, s1, s2, s3, s4, s5, s6, s7⟩ := hSw
                    first | (go_simp; done) | (go_simp; with_reducible rfl)
                  simp only [List.set_cons_zero, List.set_cons_succ]
                  refine take_at (i := 17) (n := 189) (v := ?_) rfl rfl (by kernel_rfl) (by kernel_rfl) (by kernel_rfl) (fun _ _ _ h => h) (Or.inl ⟨by rfl, ?_⟩) (by assumption) ?_
                  rotate_left 1
                  · intro wz hSw
                    obtain ⟨s0, s1, s2, s3, s4, s5, s6, s7⟩ := hSw
                    first | (go_simp; done) | (go_simp; with_reducible rfl)
                  simp only [List.set_cons_zero, List.set_cons_succ]
                  refine take_at (i := 18) (n := 190) (v := ?_) rfl rfl (by kernel_rfl) (by kernel_rfl) (by kernel_rfl) (fun _ _ _ h => h) (Or.inl ⟨by rfl, ?_⟩) (by assumption) ?_
                  rotate_left 1
                  · intro wz hSw
                    obtain ⟨s0, s1, s2, s3, s4, s5, s6, s7⟩ := hSw
                    first | (go_simp; done) | (go_simp; with_reducible rfl)
                  simp only [List.set_cons_zero, List.set_cons_succ]
                  refine take_at (i := 19) (n := 191) (v := ?_) rfl rfl (by kernel_rfl) (by kernel_rfl) (by kernel_rfl) (fun _ _ _ h => h) (Or.inl ⟨by rfl, ?_⟩) (by assumption) ?_
                  rotate_left 1
                  · intro wz hSw
                    obtain ⟨s0, s1, s2, s3, s4, s5, s6, s7⟩ := hSw
                    first | (go_simp; done) | (go_simp; with_reducible rfl)
                  simp only [List.set_cons_zero, List.set_cons_succ]
                  refine take_at (i := 20) (n := 192) (v := ?_) rfl rfl (by kernel_rfl) (by kernel_rfl) (by kernel_rfl) (fun _ _ _ h => h) (Or.inl ⟨by rfl, ?_⟩) (by assumption) ?_
                  rotate_left 1
                  · intro wz hSw
                    obtain ⟨s0, s1, s2, s3, s4, s5, s6, s7⟩ := hSw
                    first | (go_simp; done) | (go_simp; with_reducible rfl)
                  simp only [List.set_cons_zero, List.set_cons_succ]
                  refine take_at (i := 21) (n := 193) (v := ?_) rfl rfl (by kernel_rfl) (by kernel_rfl) (by kernel_rfl) (fun _ _ _ h => h) (Or.inl ⟨by rfl, ?_⟩) (by assumption) ?_
                  rotate_left 1
                  · intro wz hSw
                    obtain ⟨s0, s1, s2, s3, s4, s5, s6, s7⟩ := hSw
                    first | (go_simp; done) | (go_simp; with_reducible rfl)
                  simp only [List.set_cons_zero, List.set_cons_succ]
                  refine take_at (i := 22) (n := 194) (v := ?_) rfl rfl (by kernel_rfl) (by kernel_rfl) (by kernel_rfl) (fun _ _ _ h => h) (Or.inl ⟨by rfl, ?_⟩) (by assumption) ?_
                  rotate_left 1
                  · intro wz hSw
                    obtain ⟨s0, s1, s2, s3, s4, s5, s6, s7⟩ := hSw
                    first | (go_simp; done) | (go_simp; with_reducible rfl)
                  simp only [List.set_cons_zero, List.set_cons_succ]
                  refine wpAnyH_ready (rs := [23]) (by kernel_rfl) (by simp) ?_
                  refine AllReadyH.cons rfl (fun K hK => ?_) AllReadyH.nil
                  go_simp
                  go_wp2_with (go_at_call 9; refine HD.mono ?_; rintro r Z1 ⟨rfl, hb0⟩; have hbz := below_seq (Below.refl _ wc).drew hb0; clear hb0 HD)
                  refine hK.out _ _ ⟨below_cell hbz eg0, below_cell hbz eg1, below_cell hbz exi, below_cell hbz ew, below_cell hbz ev', below_cell hbz em2, below_cell hbz em1, below_cell hbz ei0⟩ (fun hHeld => ?_)
                  clear hK K
                  try simp only [List.set_cons_zero, List.set_cons_succ]
                  refine take_at (i := 24) (n := 196) (v := ?_) rfl rfl (by kernel_rfl) (by kernel_rfl) (by kernel_rfl) (fun _ _ _ h => h) (Or.inl ⟨by rfl, ?_⟩) (by assumption) ?_
                  rotate_left 1
                  · intro wz hSw
                    obtain ⟨s0, s1, s2, s3, s4, s5, s6, s7⟩ := hSw
                    first | (go_simp; done) | (go_simp; with_reducible rfl)
                  simp only [List.set_cons_zero, List.set_cons_succ]
                  refine take_at (i := 25) (n := 197) (v := ?_) rfl rfl (by kernel_rfl) (by kernel_rfl) (by kernel_rfl) (fun _ _ _ h => h) (Or.inl ⟨by rfl, ?_⟩) (by assumption) ?_
                  rotate_left 1
                  · intro wz hSw
                    obtain ⟨s0, s1, s2, s3, s4, s5, s6, s7⟩ := hSw
                    first | (go_simp; done) | (go_simp; with_reducible rfl)
                  simp only [List.set_cons_zero, List.set_cons_succ]
                  refine wpAnyH_done (by kernel_rfl) ?_ _
                  refine NoPanic.normal ?_
                  clear hHeld
                  go_wp2_with fail
                  exact ⟨⟨i + 1, by omega, by simp, below_seq HZ.out.1 hbz⟩, by simp [intOf]; omega⟩
                · have qWd : decide (xa + W < TT) = false := by simpa using qW
                  refine wp_region_noPanic ?_
                  refine wp_region_held_drew (S := fun w' => w'.cell? ⟨cg, 0, none⟩ = some (.int .i64 (k : Int)) ∧ w'.cell? ⟨cg, 1, none⟩ = some (.int .i64 xa) ∧ w'.cell? ⟨ab, ao + k * 6 + 4, none⟩ = some (.bool xi) ∧ w'.cell? ⟨wb, wo + k, none⟩ = some (.int .i64 W) ∧ w'.cell? ⟨vb, vo + k, none⟩ = some (.int .i64 V) ∧ w'.cell? ⟨mb, 2, none⟩ = some (.int .i64 TT) ∧ w'.cell? ⟨mb, 1, none⟩ = some (.slice (some ⟨eb, 0, none⟩) cs.length cs.length) ∧ w'.cell? ⟨ig, 0, none⟩ = some (.int .i64 (i : Int))) (by kernel_rfl) ⟨eg0, eg1, exi, ew, ev', em2, em1, ei0⟩ (fun hHeld => ?_)
                  refine take_at (i := 0) (n := 172) (v := ?_) rfl rfl (by kernel_rfl) (by kernel_rfl) (by kernel_rfl) (fun _ _ _ h => h) (Or.inl ⟨by rfl, ?_⟩) (by assumption) ?_
                  rotate_left 1
                  · intro wz hSw
                    obtain ⟨s0, s1, s2, s3, s4, s5, s6, s7⟩ := hSw
                    first | (go_simp; done) | (go_simp; with_reducible rfl)
                  simp only [List.set_cons_zero, List.set_cons_succ]
                  refine take_at (i := 1) (n := 173) (v := ?_) rfl rfl (by kernel_rfl) (by kernel_rfl) (by kernel_rfl) (fun _ _ _ h => h) (Or.inl ⟨by rfl, ?_⟩) (by assumption) ?_
                  rotate_left 1
                  · intro wz hSw
                    obtain ⟨s0, s1, s2, s3, s4, s5, s6, s7⟩ := hSw
                    first | (go_simp; done) | (go_simp; with_reducible rfl)
                  simp only [List.set_cons_zero, List.set_cons_succ]
                  refine take_at (i := 2) (n := 174) (v := ?_) rfl rfl (by kernel_rfl) (by kernel_rfl) (by kernel_rfl) (fun _ _ _ h => h) (Or.inl ⟨by rfl, ?_⟩) (by assumption) ?_
                  rotate_left 1
                  · intro wz hSw
                    obtain ⟨s0, s1, s2, s3, s4, s5, s6, s7⟩ := hSw
                    first | (go_simp; done) | (go_simp; with_reducible rfl)
                  simp only [List.set_cons_zero, List.set_cons_succ]
                  refine take_at (i := 3) (n := 175) (v := ?_) rfl rfl (by kernel_rfl) (by kernel_rfl) (by kernel_rfl) (fun _ _ _ h => h) (Or.inl ⟨by rfl, ?_⟩) (by assumption) ?_
                  rotate_left 1
                  · intro wz hSw
                    obtain ⟨s0, s1, s2, s3, s4, s5, s6, s7⟩ := hSw
                    first | (go_simp; done) | (go_simp; with_reducible rfl)
                  simp only [List.set_cons_zero, List.set_cons_succ]
                  refine take_at (i := 4) (n := 176) (v := ?_) rfl rfl (by kernel_rfl) (by kernel_rfl) (by kernel_rfl) (fun _ _ _ h => h) (Or.inl ⟨by rfl, ?_⟩) (by assumption) ?_
                  rotate_left 1
                  · intro wz hSw
                    obtain ⟨s0, s1, s2, s3, s4, s5, s6, s7⟩ := hSw
                    first | (go_simp; done) | (go_simp; with_reducible rfl)
                  simp only [List.set_cons_zero, List.set_cons_succ]
                  refine take_at (i := 5) (n := 177) (v := ?_) rfl rfl (by kernel_rfl) (by kernel_rfl) (by kernel_rfl) (fun _ _ _ h => h) (Or.inl ⟨by rfl, ?_⟩) (by assumption) ?_
                  rotate_left 1
                  · intro wz hSw
                    obtain ⟨s0, s1, s2, s3, s4, s5, s6, s7⟩ := hSw
                    first | (go_simp; done) | (go_simp; with_reducible rfl)
                  simp only [List.set_cons_zero, List.set_cons_succ]
                  refine take_at (i := 6) (n := 178) (v := ?_) rfl rfl (by kernel_rfl) (by kernel_rfl) (by kernel_rfl) (fun _ _ _ h => h) (Or.inl ⟨by rfl, ?_⟩) (by assumption) ?_
                  rotate_left 1
                  · intro wz hSw
                    obtain ⟨s0, s1, s2, s3, s4, s5, s6, s7⟩ := hSw
                    first | (go_simp; done) | (go_simp; with_reducible rfl)
                  simp only [List.set_cons_zero, List.set_cons_succ]
                  refine take_at (i := 7) (n := 179) (v := ?_) rfl rfl (by kernel_rfl) (by kernel_rfl) (by kernel_rfl) (fun _ _ _ h => h) (Or.inl ⟨by rfl, ?_⟩) (by assumption) ?_
                  rotate_left 1
                  · intro wz hSw
                    obtain ⟨s0, s1, s2, s3, s4, s5, s6, s7⟩ := hSw
                    first | (go_simp; done) | (go_simp; with_reducible rfl)
                  simp only [List.set_cons_zero, List.set_cons_succ]
                  refine take_at (i := 8) (n := 180) (v := ?_) rfl rfl (by kernel_rfl) (by kernel_rfl) (by kernel_rfl) (fun _ _ _ h => h) (Or.inl ⟨by rfl, ?_⟩) (by assumption) ?_
                  rotate_left 1
                  · intro wz hSw
                    obtain ⟨s0, s1, s2, s3, s4, s5, s6, s7⟩ := hSw
                    first | (go_simp; done) | (go_simp; with_reducible rfl)
                  simp only [List.set_cons_zero, List.set_cons_succ]
                  refine take_at (i := 9) (n := 181) (v := ?_) rfl rfl (by kernel_rfl) (by kernel_rfl) (by kernel_rfl) (fun _ _ _ h => h) (Or.inl ⟨by rfl, ?_⟩) (by assumption) ?_
                  rotate_left 1
                  · intro wz hSw
                    obtain ⟨s0, s1, s2, s3, s4, s5, s6, s7⟩ := hSw
                    first | (go_simp; done) | (go_simp; with_reducible rfl)
                  simp only [List.set_cons_zero, List.set_cons_succ]
                  refine take_at (i := 10) (n := 182) (v := ?_) rfl rfl (by kernel_rfl) (by kernel_rfl) (by kernel_rfl) (fun _ _ _ h => h) (Or.inl ⟨by rfl, ?_⟩) (by assumption) ?_
                  rotate_left 1
                  · intro wz hSw
                    obtain ⟨s0, s1, s2, s3, s4, s5, s6, s7⟩ := hSw
                    first | (go_simp; done) | (go_simp; with_reducible rfl)
                  simp only [List.set_cons_zero, List.set_cons_succ]
                  refine take_at (i := 11) (n := 183) (v := ?_) rfl rfl (by kernel_rfl) (by kernel_rfl) (by kernel_rfl) (fun _ _ _ h => h) (Or.inl ⟨by rfl, ?_⟩) (by assumption) ?_
                  rotate_left 1
                  · intro wz hSw
                    obtain ⟨s0, s1, s2, s3, s4, s5, s6, s7⟩ := hSw
                    first | (go_simp; done) | (go_simp; with_reducible rfl)
                  simp only [List.set_cons_zero, List.set_cons_succ]
                  refine take_at (i := 12) (n := 184) (v := ?_) rfl rfl (by kernel_rfl) (by kernel_rfl) (by kernel_rfl) (fun _ _ _ h => h) (Or.inl ⟨by rfl, ?_⟩) (by assumption) ?_
                  rotate_left 1
                  · intro wz hSw
                    obtain ⟨s0, s1, s2, s3, s4, s5, s6, s7⟩ := hSw
                    first | (go_simp; done) | (go_simp; with_reducible rfl)
                  simp only [List.set_cons_zero, List.set_cons_succ]
                  refine take_at (i := 13) (n := 185) (v := ?_) rfl rfl (by kernel_rfl) (by kernel_rfl) (by kernel_rfl) (fun _ _ _ h => h) (Or.inl ⟨by rfl, ?_⟩) (by assumption) ?_
                  rotate_left 1
                  · intro wz hSw
                    obtain ⟨s0, s1, s2, s3, s4, s5, s6, s7⟩ := hSw
                    first | (go_simp; done) | (go_simp; with_reducible rfl)
                  simp only [List.set_cons_zero, List.set_cons_succ]
                  refine take_at (i := 14) (n := 186) (v := ?_) rfl rfl (by kernel_rfl) (by kernel_rfl) (by kernel_rfl) (fun _ _ _ h => h) (Or.inl ⟨by rfl, ?_⟩) (by assumption) ?_
                  rotate_left 1
                  · intro wz hSw
                    obtain ⟨s0, s1, s2, s3, s4, s5, s6, s7⟩ := hSw
                    first | (go_simp; done) | (go_simp; with_reducible rfl)
                  simp only [List.set_cons_zero, List.set_cons_succ]
                  refine take_at (i := 15) (n := 187) (v := ?_) rfl rfl (by kernel_rfl) (by kernel_rfl) (by kernel_rfl) (fun _ _ _ h => h) (Or.inl ⟨by rfl, ?_⟩) (by assumption) ?_
                  rotate_left 1
                  · intro wz hSw
                    obtain ⟨s0, s1, s2, s3, s4, s5, s6, s7⟩ := hSw
                    first | (go_simp; done) | (go_simp; with_reducible rfl)
                  simp only [List.set_cons_zero, List.set_cons_succ]
                  refine take_at (i := 16) (n := 188) (v := ?_) rfl rfl (by kernel_rfl) (by kernel_rfl) (by kernel_rfl) (fun _ _ _ h => h) (Or.inl ⟨by rfl, ?_⟩) (by assumption) ?_
                  rotate_left 1
                  · intro wz hSw
                    obtain ⟨s0, s1, s2, s3, s4, s5, s6, s7⟩ := hSw
                    first | (go_simp; done) | (go_simp; with_reducible rfl)
                  simp only [List.set_cons_zero, List.set_cons_succ]
                  refine take_at (i := 17) (n := 189) (v := undef) rfl rfl (by kernel_rfl) (by kernel_rfl) (by kernel_rfl) (fun _ _ _ h => h) (Or.inr ⟨by rfl, rfl⟩) (by assumption) ?_
                  simp only [List.set_cons_zero, List.set_cons_succ]
                  refine take_at (i := 18) (n := 190) (v := undef) rfl rfl (by kernel_rfl) (by kernel_rfl) (by kernel_rfl) (fun _ _ _ h => h) (Or.inr ⟨by rfl, rfl⟩) (by assumption) ?_
                  simp only [List.set_cons_zero, List.set_cons_succ]
                  refine take_at (i := 19) (n := 191) (v := undef) rfl rfl (by kernel_rfl) (by kernel_rfl) (by kernel_rfl) (fun _ _ _ h => h) (Or.inr ⟨by rfl, rfl⟩) (by assumption) ?_
                  simp only [List.set_cons_zero, List.set_cons_succ]
                  refine take_at (i := 20) (n := 192) (v := undef) rfl rfl (by kernel_rfl) (by kernel_rfl) (by kernel_rfl) (fun _ _ _ h => h) (Or.inr ⟨by rfl, rfl⟩) (by assumption) ?_
                  simp only [List.set_cons_zero, List.set_cons_succ]
                  refine take_at (i := 21) (n := 193) (v := undef) rfl rfl (by kernel_rfl) (by kernel_rfl) (by kernel_rfl) (fun _ _ _ h => h) (Or.inr ⟨by rfl, rfl⟩) (by assumption) ?_
                  simp only [List.set_cons_zero, List.set_cons_succ]
                  refine take_at (i := 22) (n := 194) (v := undef) rfl rfl (by kernel_rfl) (by kernel_rfl) (by kernel_rfl) (fun _ _ _ h => h) (Or.inr ⟨by rfl, rfl⟩) (by assumption) ?_
                  simp only [List.set_cons_zero, List.set_cons_succ]
                  refine take_at (i := 23) (n := 195) (v := undef) rfl rfl (by kernel_rfl) (by kernel_rfl) (by kernel_rfl) (fun _ _ _ h => h) (Or.inr ⟨by rfl, rfl⟩) (by assumption) ?_
                  simp only [List.set_cons_zero, List.set_cons_succ]
                  refine take_at (i := 24) (n := 196) (v := undef) rfl rfl (by kernel_rfl) (by kernel_rfl) (by kernel_rfl) (fun _ _ _ h => h) (Or.inr ⟨by rfl, rfl⟩) (by assumption) ?_
                  simp only [List.set_cons_zero, List.set_cons_succ]
                  refine take_at (i := 25) (n := 197) (v := ?_) rfl rfl (by kernel_rfl) (by kernel_rfl) (by kernel_rfl) (fun _ _ _ h => h) (Or.inl ⟨by rfl, ?_⟩) (by assumption) ?_
                  rotate_left 1
                  · intro wz hSw
                    obtain ⟨s0, s1, s2, s3, s4, s5, s6, s7⟩ := hSw
                    first | (go_simp; done) | (go_simp; with_reducible rfl)
                  simp only [List.set_cons_zero, List.set_cons_succ]
                  refine wpAnyH_done (by kernel_rfl) ?_ _
                  refine NoPanic.normal ?_
                  clear hHeld
                  go_wp2_with fail
                  exact ⟨⟨i + 1, by omega, by simp, HZ.out.1.drew⟩, by simp [intOf]; omega⟩
          · have hie : i = cs.length := by omega
            subst hie
            have HE : Hid (Below w.heap.size w wr) := below_seq HX.out.1 hbX
            clear hbX
            go_wp2_with fail
            go_ret
            exact ⟨rfl, HE.out⟩
end Go.Proofs.Ytccoobcggbbciai
