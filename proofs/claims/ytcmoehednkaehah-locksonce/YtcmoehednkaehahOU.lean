import Derived.Test.YtcmoehednkaehahOI
namespace Go.Proofs.Ytcmoehednkaehah
open Go.ChangeShapes Go.WideShapes Go.ChangeAt Go.RowKit

/-- Whether those that are there and not done all wait. -/
def stuckF (t : Int) : List En → List Int → Bool → Bool
  | e :: r, z :: q, s => if t ≤ e.x.a then stuckF t r q s else if z ≠ -1 then stuckF t r q s else if e.wt = -1 then false else stuckF t r q true
  | _, _, s => s

set_option maxRecDepth 20000 in
set_option maxHeartbeats 2000000 in
theorem stuck_any (w0 w : World) (A : Ad) (pr : Int) (tp : List Int) (n : Nat) (rv : Value) (x : Rs) (h : RunW w0 w A pr tp n rv x) (hn : n ≤ 100) (t : Int) :
    Calls Try.prog 23 #[.pointer (some ⟨A.R, 0, none⟩), .int .i64 t] w fun r w' => r = .returned (.bool (stuckF t x.es x.en false)) ∧ w' = w := by
  obtain ⟨-, d1, -, d4, -, -⟩ := h.own
  have H : Hid (RunW w0 w A pr tp n rv x) := h
  clear h
  go_enter Try.func23, Try.ntmps23
  go_wp2_with fail
  go_loopw [5, 12] (fun s i wr => ∃ (k : Nat) (b : Bool), k ≤ n ∧ s = .bool b ∧ i = .int .i64 k ∧ wr = w ∧ stuckF t (x.es.drop k) (x.en.drop k) b = stuckF t x.es x.en false) (fun _ i _ => n - (intOf i).toNat)
  case atStart => exact ⟨0, false, Nat.zero_le _, rfl, rfl, rfl, rfl⟩
  case round =>
    obtain ⟨k, b, hk, rfl, rfl, rfl, hs⟩ := hrel
    by_cases hlt : k < n
    · obtain ⟨e, he⟩ := at_lt H.out.ln.1 hlt
      obtain ⟨d, hd⟩ := at_lt H.out.ln.2.1 hlt
      obtain ⟨j0, -, -, -, -, -, j6, -⟩ := H.out.job he
      have HDone := done_any wr A.R A.E n n k d hlt d1 (H.out.ends hd)
      have hki : (k : Int) < (n : Int) := by omega
      rw [List.drop_eq_getElem_cons (List.getElem?_eq_some_iff.1 he).1, (List.getElem?_eq_some_iff.1 he).2, List.drop_eq_getElem_cons (List.getElem?_eq_some_iff.1 hd).1, (List.getElem?_eq_some_iff.1 hd).2, stuckF] at hs
      by_cases ha : t ≤ e.x.a
      · rw [if_pos ha] at hs
        have HS : Hid (stuckF t (x.es.drop (k + 1)) (x.en.drop (k + 1)) b = stuckF t x.es x.en false) := hs
        clear hs he hd HDone
        go_wp2_with fail
        exact ⟨⟨k + 1, b, by omega, rfl, by simp, by first | rfl | trivial, HS.out⟩, by simp [intOf]; omega⟩
      · rw [if_neg ha] at hs
        by_cases hdn : d = -1
        · subst hdn
          rw [if_neg (by simp)] at hs
          by_cases hw : e.wt = -1
          · rw [if_pos hw] at hs
            rw [hw] at j6
            have HS : Hid (false = stuckF t x.es x.en false) := hs
            clear hs he hd hw
            go_wp2_with (go_at_call 31; refine HDone.mono ?_; rintro r w2 ⟨rfl, rfl⟩; clear HDone)
            go_ret
            exact ⟨by rw [← HS.out]; rfl, rfl⟩
          · rw [if_neg hw] at hs
            have hw' : (e.wt == -1) = false := by simpa using hw
            have HS : Hid (stuckF t (x.es.drop (k + 1)) (x.en.drop (k + 1)) true = stuckF t x.es x.en false) := hs
            clear hs he hd hw
            go_wp2_with (go_at_call 31; refine HDone.mono ?_; rintro r w2 ⟨rfl, rfl⟩; clear HDone)
            exact ⟨⟨k + 1, true, by omega, rfl, by simp, by first | rfl | trivial, HS.out⟩, by simp [intOf]; omega⟩
        · rw [if_pos hdn] at hs
          have hdn' : (d != -1) = true := by simpa using hdn
          have HS : Hid (stuckF t (x.es.drop (k + 1)) (x.en.drop (k + 1)) b = stuckF t x.es x.en false) := hs
          clear hs he hd
          go_wp2_with (go_at_call 31; refine HDone.mono ?_; rintro r w2 ⟨rfl, rfl⟩; clear HDone)
          exact ⟨⟨k + 1, b, by omega, rfl, by simp, by first | rfl | trivial, HS.out⟩, by simp [intOf]; omega⟩
    · have hke : k = n := by omega
      subst hke
      rw [List.drop_eq_nil_of_le (by have := H.out.ln.1; omega), stuckF] at hs
      · have HS : Hid (b = stuckF t x.es x.en false) := hs
        clear hs
        go_wp2_with fail
        go_ret
        exact ⟨by rw [← HS.out]; rfl, rfl⟩
      · intro _ _ _ _ e; cases e

set_option maxRecDepth 20000 in
set_option maxHeartbeats 4000000 in
/-- The active priorities, where nobody lends his. -/
theorem raise_plain (w0 w : World) (A : Ad) (tp : List Int) (n : Nat) (rv : Value) (x : Rs) (h : RunW w0 w A 1 tp n rv x) (hn : n ≤ 100) :
    Calls Try.prog 39 #[.pointer (some ⟨A.R, 0, none⟩)] w fun r w' => r = .returned (.tuple #[]) ∧ RunW w0 w' A 1 tp n rv { x with es := x.es.map loF } := by
  obtain ⟨-, -, -, c4, -, -⟩ := h.own
  have HH : Hid (RunW w0 w A 1 tp n rv x) := h
  clear h
  go_enter Try.func39, Try.ntmps39
  go_wp2_with fail
  go_loopw [11] (fun i wr => ∃ k : Nat, k ≤ n ∧ i = .int .i64 k ∧ RunW w0 wr A 1 tp n rv { x with es := mid loF x.es k }) (fun i _ => n - (intOf i).toNat)
  case atStart => exact ⟨0, Nat.zero_le _, rfl, by rw [mid_zero]; exact HH.out⟩
  case round =>
    obtain ⟨k, hk, rfl, hr⟩ := hrel
    by_cases hlt' : k < n
    · obtain ⟨e, he⟩ := at_lt HH.out.ln.1 hlt'
      have hj := hr.job (mid_at loF he)
      obtain ⟨-, j1, -, -, -, -, -, j7⟩ := hj
      obtain ⟨-, -, -, d4, -, -⟩ := hr.own
      have hf7 := hr.frz.2.1 (k * 8 + 7)
      have hki : (k : Int) < (n : Int) := by omega
      obtain ⟨-, lJ, -⟩ := hr.lts
      have hRJ := hr.ne.1.1
      have hs := hr.setJ (k := 7) (u := .int .i64 e.x.p) (e' := loF e) (mid_at loF he) (by omega) rfl
      dsimp only at hs
      rw [mid_set loF he] at hs
      have HS : Hid (RunW w0 (wr.setCell ⟨A.J, k * 8 + 7, none⟩ (.int .i64 e.x.p)) A 1 tp n rv { x with es := mid loF x.es (k + 1) }) := hs
      clear hs hr he
      go_wp2_with fail
      have hS0 : (fun w' : World => w'.cell? ⟨A.R, 4, none⟩ = some (.slice (some ⟨A.J, 0, none⟩) n n) ∧ w'.cell? ⟨A.J, k * 8 + 1, none⟩ = some (.int .i64 e.x.p)) wr.drew := ⟨d4, j1⟩
      refine wp_region_noPanic ?_
      refine wp_region_held_drew (S := fun w' => w'.cell? ⟨A.R, 4, none⟩ = some (.slice (some ⟨A.J, 0, none⟩) n n) ∧ w'.cell? ⟨A.J, k * 8 + 1, none⟩ = some (.int .i64 e.x.p)) (by kernel_rfl) (hS0) (fun hHeld => ?_)
      refine take_at (i := 0) (n := 14) (v := ?_) rfl rfl (by kernel_rfl) (by kernel_rfl) (by kernel_rfl) (fun _ _ _ h => h) (Or.inl ⟨by rfl, ?_⟩) (by assumption) ?_
      rotate_left 1
      · intro wz hSw
        obtain ⟨s0, s1⟩ := hSw
        first | (go_simp; done) | (go_simp; with_reducible rfl)
      simp only [List.set_cons_zero, List.set_cons_succ]
      refine take_at (i := 1) (n := 15) (v := ?_) rfl rfl (by kernel_rfl) (by kernel_rfl) (by kernel_rfl) (fun _ _ _ h => h) (Or.inl ⟨by rfl, ?_⟩) (by assumption) ?_
      rotate_left 1
      · intro wz hSw
        obtain ⟨s0, s1⟩ := hSw
        first | (go_simp; done) | (go_simp; with_reducible rfl)
      simp only [List.set_cons_zero, List.set_cons_succ]
      refine take_at (i := 2) (n := 16) (v := ?_) rfl rfl (by kernel_rfl) (by kernel_rfl) (by kernel_rfl) (fun _ _ _ h => h) (Or.inl ⟨by rfl, ?_⟩) (by assumption) ?_
      rotate_left 1
      · intro wz hSw
        obtain ⟨s0, s1⟩ := hSw
        first | (go_simp; done) | (go_simp; with_reducible rfl)
      simp only [List.set_cons_zero, List.set_cons_succ]
      refine take_at (i := 3) (n := 17) (v := ?_) rfl rfl (by kernel_rfl) (by kernel_rfl) (by kernel_rfl) (fun _ _ _ h => h) (Or.inl ⟨by rfl, ?_⟩) (by assumption) ?_
      rotate_left 1
      · intro wz hSw
        obtain ⟨s0, s1⟩ := hSw
        first | (go_simp; done) | (go_simp; with_reducible rfl)
      simp only [List.set_cons_zero, List.set_cons_succ]
      refine take_at (i := 4) (n := 18) (v := ?_) rfl rfl (by kernel_rfl) (by kernel_rfl) (by kernel_rfl) (fun _ _ _ h => h) (Or.inl ⟨by rfl, ?_⟩) (by assumption) ?_
      rotate_left 1
      · intro wz hSw
        obtain ⟨s0, s1⟩ := hSw
        first | (go_simp; done) | (go_simp; with_reducible rfl)
      simp only [List.set_cons_zero, List.set_cons_succ]
      refine take_at (i := 5) (n := 19) (v := ?_) rfl rfl (by kernel_rfl) (by kernel_rfl) (by kernel_rfl) (fun _ _ _ h => h) (Or.inl ⟨by rfl, ?_⟩) (by assumption) ?_
      rotate_left 1
      · intro wz hSw
        obtain ⟨s0, s1⟩ := hSw
        first | (go_simp; done) | (go_simp; with_reducible rfl)
      simp only [List.set_cons_zero, List.set_cons_succ]
      refine take_at (i := 6) (n := 20) (v := ?_) rfl rfl (by kernel_rfl) (by kernel_rfl) (by kernel_rfl) (fun _ _ _ h => h) (Or.inl ⟨by rfl, ?_⟩) (by assumption) ?_
      rotate_left 1
      · intro wz hSw
        obtain ⟨s0, s1⟩ := hSw
        first | (go_simp; done) | (go_simp; with_reducible rfl)
      simp only [List.set_cons_zero, List.set_cons_succ]
      refine take_at (i := 7) (n := 21) (v := ?_) rfl rfl (by kernel_rfl) (by kernel_rfl) (by kernel_rfl) (fun _ _ _ h => h) (Or.inl ⟨by rfl, ?_⟩) (by assumption) ?_
      rotate_left 1
      · intro wz hSw
        obtain ⟨s0, s1⟩ := hSw
        first | (go_simp; done) | (go_simp; with_reducible rfl)
      simp only [List.set_cons_zero, List.set_cons_succ]
      refine take_at (i := 8) (n := 22) (v := ?_) rfl rfl (by kernel_rfl) (by kernel_rfl) (by kernel_rfl) (fun _ _ _ h => h) (Or.inl ⟨by rfl, ?_⟩) (by assumption) ?_
      rotate_left 1
      · intro wz hSw
        obtain ⟨s0, s1⟩ := hSw
        first | (go_simp; done) | (go_simp; with_reducible rfl)
      simp only [List.set_cons_zero, List.set_cons_succ]
      refine take_at (i := 9) (n := 23) (v := ?_) rfl rfl (by kernel_rfl) (by kernel_rfl) (by kernel_rfl) (fun _ _ _ h => h) (Or.inl ⟨by rfl, ?_⟩) (by assumption) ?_
      rotate_left 1
      · intro wz hSw
        obtain ⟨s0, s1⟩ := hSw
        first | (go_simp; done) | (go_simp; with_reducible rfl)
      simp only [List.set_cons_zero, List.set_cons_succ]
      refine take_at (i := 10) (n := 24) (v := ?_) rfl rfl (by kernel_rfl) (by kernel_rfl) (by kernel_rfl) (fun _ _ _ h => h) (Or.inl ⟨by rfl, ?_⟩) (by assumption) ?_
      rotate_left 1
      · intro wz hSw
        obtain ⟨s0, s1⟩ := hSw
        first | (go_simp; done) | (go_simp; with_reducible rfl)
      simp only [List.set_cons_zero, List.set_cons_succ]
      refine take_at (i := 11) (n := 25) (v := ?_) rfl rfl (by kernel_rfl) (by kernel_rfl) (by kernel_rfl) (fun _ _ _ h => h) (Or.inl ⟨by rfl, ?_⟩) (by assumption) ?_
      rotate_left 1
      · intro wz hSw
        obtain ⟨s0, s1⟩ := hSw
        first | (go_simp; done) | (go_simp; with_reducible rfl)
      simp only [List.set_cons_zero, List.set_cons_succ]
      refine take_at (i := 12) (n := 26) (v := ?_) rfl rfl (by kernel_rfl) (by kernel_rfl) (by kernel_rfl) (fun _ _ _ h => h) (Or.inl ⟨by rfl, ?_⟩) (by assumption) ?_
      rotate_left 1
      · intro wz hSw
        obtain ⟨s0, s1⟩ := hSw
        first | (go_simp; done) | (go_simp; with_reducible rfl)
      simp only [List.set_cons_zero, List.set_cons_succ]
      refine take_at (i := 13) (n := 27) (v := ?_) rfl rfl (by kernel_rfl) (by kernel_rfl) (by kernel_rfl) (fun _ _ _ h => h) (Or.inl ⟨by rfl, ?_⟩) (by assumption) ?_
      rotate_left 1
      · intro wz hSw
        obtain ⟨s0, s1⟩ := hSw
        first | (go_simp; done) | (go_simp; with_reducible rfl)
      simp only [List.set_cons_zero, List.set_cons_succ]
      refine take_at (i := 14) (n := 28) (v := ?_) rfl rfl (by kernel_rfl) (by kernel_rfl) (by kernel_rfl) (fun _ _ _ h => h) (Or.inl ⟨by rfl, ?_⟩) (by assumption) ?_
      rotate_left 1
      · intro wz hSw
        obtain ⟨s0, s1⟩ := hSw
        first | (go_simp; done) | (go_simp; with_reducible rfl)
      simp only [List.set_cons_zero, List.set_cons_succ]
      refine take_at (i := 15) (n := 29) (v := ?_) rfl rfl (by kernel_rfl) (by kernel_rfl) (by kernel_rfl) (fun _ _ _ h => h) (Or.inl ⟨by rfl, ?_⟩) (by assumption) ?_
      rotate_left 1
      · intro wz hSw
        obtain ⟨s0, s1⟩ := hSw
        first | (go_simp; done) | (go_simp; with_reducible rfl)
      simp only [List.set_cons_zero, List.set_cons_succ]
      refine wpAnyH_ready (rs := [16]) (by kernel_rfl) (by simp) ?_
      refine AllReadyH.cons rfl (fun K hK => ?_) AllReadyH.nil
      go_simp
      refine hK.out _ _ (by refine ⟨?_, ?_⟩ <;> go_simp) (fun hHeld => ?_)
      clear hK K
      refine wpAnyH_done (by kernel_rfl) ?_ _
      refine NoPanic.normal ?_
      go_wp2_with fail
      exact ⟨⟨k + 1, by omega, by simp, HS.out.drew⟩, by simp [intOf]; omega⟩
    · have hke : k = n := by omega
      subst hke
      have HE : Hid (RunW w0 wr A 1 tp k rv { x with es := x.es.map loF }) := by
        have e := HH.out.ln.1
        rw [← mid_all, e]
        exact hr
      obtain ⟨-, -, -, -, d5, -⟩ := hr.own
      clear hr
      go_wp2_with fail
      go_end0
      exact ⟨rfl, HE.out⟩
end Go.Proofs.Ytcmoehednkaehah
