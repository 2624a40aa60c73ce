import Derived.Test.YtcmoehednkaehahGOR
namespace Go.Proofs.Ytcmoehednkaehah
open Go.ChangeShapes Go.WideShapes Go.ChangeAt Go.RowKit

/-- Those that wait have waited a tick more. -/
def bumpF : List En → List Int → List Int
  | e :: r, z :: q => (if e.wt = -1 then z else z + 1) :: bumpF r q
  | _, q => q

theorem bumpF_len : ∀ (es : List En) (ws : List Int), (bumpF es ws).length = ws.length
  | [], _ => rfl
  | _ :: _, [] => rfl
  | e :: r, z :: q => by rw [bumpF, List.length_cons, bumpF_len r q, List.length_cons]
theorem bumpF_at : ∀ (es : List En) (ws : List Int) (k : Nat) (e : En) (z : Int), es[k]? = some e → ws[k]? = some z → (bumpF (es.take k) ws)[k]? = some z ∧ (bumpF (es.take k) ws).set k (if e.wt = -1 then z else z + 1) = bumpF (es.take (k + 1)) ws
  | [], _, _, _, _, h, _ => by simp at h
  | _ :: _, [], _, _, _, _, h => by simp at h
  | e' :: r, z' :: q, 0, e, z, h, h' => by
    simp at h h'
    subst h
    subst h'
    simp [bumpF]
  | e' :: r, z' :: q, k + 1, e, z, h, h' => by
    obtain ⟨i1, i2⟩ := bumpF_at r q k e z (by simpa using h) (by simpa using h')
    rw [List.take_succ_cons, List.take_succ_cons, bumpF, bumpF, List.getElem?_cons_succ, List.set_cons_succ, i1, i2]
    exact ⟨rfl, rfl⟩

/-- What a run is at the beginning of a tick, whatever is true of it. -/
structure TI (I : Nat → List Int → Rs → Prop) (pr : Int) (tp : List Int) (n : Nat) (w0 w : World) (A : Ad) (B now : Nat) (runs : List Int) : Prop where
  run : ∃ rv x, RunW w0 w A pr tp n rv x ∧ Stk w B rv runs ∧ I now runs x
  low : Lows w0 A B

set_option maxRecDepth 20000 in
set_option maxHeartbeats 4000000 in
/-- A tick. -/
theorem tick_gen (I : Nat → List Int → Rs → Prop) (J : Int → Rs → Prop) (pr : Int) (tp : List Int) (n : Nat) (w0 w : World) (A : Ad) (B now : Nat) (runs : List Int) (hn : n ≤ 100) (hrl : runs.length ≤ 20000) (h : TI I pr tp n w0 w A B now runs)
    (HBegin : ∀ (A' : Ad) (w' : World) (rv : Value) (x : Rs), RunW w0 w' A' pr tp n rv x → I now runs x → Calls Try.prog 30 #[.pointer (some ⟨A'.R, 0, none⟩), .int .i64 (now : Int)] w' fun r w'' => ∃ (f : Int) (x' : Rs), r = .returned (.int .i64 f) ∧ RunW w0 w'' A' pr tp n rv x' ∧ J f x')
    (HJ : ∀ f x', J f x' → (∀ z ∈ x'.ws, 0 ≤ z ∧ z ≤ 100000) ∧ I (now + 1) (runs ++ [f]) { x' with ws := bumpF x'.es x'.ws }) :
    Calls Try.prog 22 #[.pointer (some ⟨A.R, 0, none⟩), .int .i64 (now : Int)] w fun r w' => r = .returned (.tuple #[]) ∧ ∃ f, TI I pr tp n w0 w' A B (now + 1) (runs ++ [f]) := by
  obtain ⟨⟨rv, x, hr, hst, g⟩, hlow⟩ := h
  obtain ⟨ad, c, rfl⟩ := owns_value hst
  obtain ⟨b1, b2, b3, b4, b5⟩ := hlow.bs
  have hr2 := hr.drew.beside (fun k => if (Value.slice ad runs.length c).ownBlock = some k then w.heap[k]? else none) (fun k o hk => by
    by_cases hkk : (Value.slice ad runs.length c).ownBlock = some k
    · rw [if_pos hkk] at hk
      have := hst.low hkk
      exact ⟨⟨by omega, by omega, by omega, by omega⟩, hk⟩
    · rw [if_neg hkk] at hk; cases hk)
  have HBeg := HBegin _ w.drew (Value.slice ad runs.length c) x hr2 g
  dsimp only at HBeg
  have HB : Hid (∀ w1 f x', RunW w0 w1 { A with F := fun k => if (Value.slice ad runs.length c).ownBlock = some k then w.heap[k]? else none } pr tp n (Value.slice ad runs.length c) x' → w1.cell? ⟨A.R, 0, none⟩ = some (Value.slice ad runs.length c) ∧ A.R < w1.heap.size ∧ ∃ ad4 c4 w4, (Builtin.append_ #[26, 26] 26 #[(Value.slice ad runs.length c), .slice (some ⟨w1.heap.size, 0, none⟩) 1 1]).run Try.prog (w1.alloc (.cells #[.int .i64 f] 3)) = .ok (.slice ad4 (runs.length + 1) c4) w4 ∧ w4.cell? ⟨A.R, 0, none⟩ = some (Value.slice ad runs.length c) ∧ w4.frozen? ⟨A.R, 0, none⟩ = false ∧ A.R < w4.heap.size ∧ RunW w0 (w4.setCell ⟨A.R, 0, none⟩ (.slice ad4 (runs.length + 1) c4)) A pr tp n (.slice ad4 (runs.length + 1) c4) x' ∧ Stk (w4.setCell ⟨A.R, 0, none⟩ (.slice ad4 (runs.length + 1) c4)) B (.slice ad4 (runs.length + 1) c4) (runs ++ [f])) := by
    intro w1 f x' h1
    have h1' : RunW w0 w1 A pr tp n (Value.slice ad runs.length c) x' := h1.beside A.F (fun k o hk => by rw [hlow.F] at hk; cases hk)
    have hst1 : Stk w1 B (Value.slice ad runs.length c) runs := hst.keep (fun k hk => by
      have hlt : ∃ o, w.heap[k]? = some o := by
        rcases hst.cases with ⟨h0, -⟩ | ⟨g', cap, cur, h0, -, h2, -⟩
        · rw [h0] at hk; cases hk
        · rw [h0] at hk; cases hk; exact ⟨_, h2⟩
      obtain ⟨o, ho⟩ := hlt
      have := (h1.fr k o (by dsimp only; rw [if_pos hk]; exact ho)).2
      rw [this, ho])
    have hB1 : B ≤ w1.heap.size := by
      have := h1'.lts.2.2.2.1
      have := hlow.top
      omega
    obtain ⟨rv', w4, q1, q2, q3⟩ := hst1.push f (by omega) hB1
    obtain ⟨ad4, c4, e4⟩ := owns_value q2
    rw [List.length_append] at e4
    subst e4
    have h4 := h1'.other q3 hlow
    have h5 := h4.setR (.slice ad4 (runs.length + [f].length) c4)
    refine ⟨h1'.own.1, h1'.lts.1, ad4, c4, w4, q1, h4.own.1, h4.frz.1 0, h4.lts.1, h5, ?_⟩
    refine q2.keep (fun k hk => Below.heap_setCell _ _ _ _ ?_)
    have := q2.low hk
    show k ≠ A.R
    omega
  have hS0 : w.drew.cell? ⟨A.R, 0, none⟩ = some (Value.slice ad runs.length c) := hr.own.1
  have HL : Hid (Lows w0 A B ∧ ∀ f x', J f x' → (∀ z ∈ x'.ws, 0 ≤ z ∧ z ≤ 100000) ∧ I (now + 1) (runs ++ [f]) { x' with ws := bumpF x'.es x'.ws }) := ⟨hlow, HJ⟩
  clear hr hst g hr2 hlow b1 b2 b3 b4 b5 HBegin HJ
  go_enter Try.func22, Try.ntmps22
  go_wp2_with fail
  refine wp_region_noPanic ?_
  refine wp_region_last (S := fun w' => w'.cell? ⟨A.R, 0, none⟩ = some (Value.slice ad runs.length c)) (L := 16) (by kernel_rfl) ?_
  refine takeL_at (i := 0) (n := 5) (v := ?_) rfl rfl (by kernel_rfl) (by kernel_rfl) (by decide) (by kernel_rfl) (by kernel_rfl) (by kernel_rfl) (fun _ _ _ h => h) (Or.inl ⟨by rfl, ?_⟩) (by assumption) ?_
  rotate_left 1
  · intro wz hSw
    first | (go_simp; done) | (go_simp; with_reducible rfl)
  simp only [List.set_cons_zero, List.set_cons_succ]
  refine takeL_at (i := 1) (n := 6) (v := ?_) rfl rfl (by kernel_rfl) (by kernel_rfl) (by decide) (by kernel_rfl) (by kernel_rfl) (by kernel_rfl) (fun _ _ _ h => h) (Or.inl ⟨by rfl, ?_⟩) (by assumption) ?_
  rotate_left 1
  · intro wz hSw
    first | (go_simp; done) | (go_simp; with_reducible rfl)
  simp only [List.set_cons_zero, List.set_cons_succ]
  refine takeL_at (i := 2) (n := 7) (v := ?_) rfl rfl (by kernel_rfl) (by kernel_rfl) (by decide) (by kernel_rfl) (by kernel_rfl) (by kernel_rfl) (fun _ _ _ h => h) (Or.inl ⟨by rfl, ?_⟩) (by assumption) ?_
  rotate_left 1
  · intro wz hSw
    first | (go_simp; done) | (go_simp; with_reducible rfl)
  simp only [List.set_cons_zero, List.set_cons_succ]
  refine takeL_at (i := 3) (n := 8) (v := ?_) rfl rfl (by kernel_rfl) (by kernel_rfl) (by decide) (by kernel_rfl) (by kernel_rfl) (by kernel_rfl) (fun _ _ _ h => h) (Or.inl ⟨by rfl, ?_⟩) (by assumption) ?_
  rotate_left 1
  · intro wz hSw
    first | (go_simp; done) | (go_simp; with_reducible rfl)
  simp only [List.set_cons_zero, List.set_cons_succ]
  refine takeL_at (i := 4) (n := 9) (v := ?_) rfl rfl (by kernel_rfl) (by kernel_rfl) (by decide) (by kernel_rfl) (by kernel_rfl) (by kernel_rfl) (fun _ _ _ h => h) (Or.inl ⟨by rfl, ?_⟩) (by assumption) ?_
  rotate_left 1
  · intro wz hSw
    first | (go_simp; done) | (go_simp; with_reducible rfl)
  simp only [List.set_cons_zero, List.set_cons_succ]
  refine takeL_at (i := 5) (n := 10) (v := ?_) rfl rfl (by kernel_rfl) (by kernel_rfl) (by decide) (by kernel_rfl) (by kernel_rfl) (by kernel_rfl) (fun _ _ _ h => h) (Or.inl ⟨by rfl, ?_⟩) (by assumption) ?_
  rotate_left 1
  · intro wz hSw
    first | (go_simp; done) | (go_simp; with_reducible rfl)
  simp only [List.set_cons_zero, List.set_cons_succ]
  refine takeL_at (i := 6) (n := 11) (v := ?_) rfl rfl (by kernel_rfl) (by kernel_rfl) (by decide) (by kernel_rfl) (by kernel_rfl) (by kernel_rfl) (fun _ _ _ h => h) (Or.inl ⟨by rfl, ?_⟩) (by assumption) ?_
  rotate_left 1
  · intro wz hSw
    first | (go_simp; done) | (go_simp; with_reducible rfl)
  simp only [List.set_cons_zero, List.set_cons_succ]
  refine takeL_at (i := 7) (n := 12) (v := ?_) rfl rfl (by kernel_rfl) (by kernel_rfl) (by decide) (by kernel_rfl) (by kernel_rfl) (by kernel_rfl) (fun _ _ _ h => h) (Or.inl ⟨by rfl, ?_⟩) (by assumption) ?_
  rotate_left 1
  · intro wz hSw
    first | (go_simp; done) | (go_simp; with_reducible rfl)
  simp only [List.set_cons_zero, List.set_cons_succ]
  refine takeL_at (i := 8) (n := 13) (v := ?_) rfl rfl (by kernel_rfl) (by kernel_rfl) (by decide) (by kernel_rfl) (by kernel_rfl) (by kernel_rfl) (fun _ _ _ h => h) (Or.inl ⟨by rfl, ?_⟩) (by assumption) ?_
  rotate_left 1
  · intro wz hSw
    first | (go_simp; done) | (go_simp; with_reducible rfl)
  simp only [List.set_cons_zero, List.set_cons_succ]
  refine wpAnyL_one (i := 9) (by kernel_rfl) rfl (fun K' hK' => ?_)
  go_simp
  go_wp2_with (go_at_call 30; refine HBeg.mono ?_; rintro r w1 ⟨f, x1, rfl, hw1, hg1⟩; obtain ⟨s1, l1, ad4, c4, w4, hrun, s4, f4, l4, r4, t4⟩ := HB.out w1 f x1 hw1; have H4 : Hid (RunW w0 (w4.setCell ⟨A.R, 0, none⟩ (.slice ad4 (runs.length + 1) c4)) A pr tp n (.slice ad4 (runs.length + 1) c4) x1 ∧ Stk (w4.setCell ⟨A.R, 0, none⟩ (.slice ad4 (runs.length + 1) c4)) B (.slice ad4 (runs.length + 1) c4) (runs ++ [f]) ∧ J f x1) := ⟨r4, t4, hg1⟩; clear hw1 hg1 HBeg HB r4 t4)
  refine hK'.out _ _ (fun _ => s1) ?_
  clear hK' K'
  refine wpAnyL_one (i := 10) (by kernel_rfl) rfl (fun K' hK' => ?_)
  go_simp
  refine hK'.out _ _ (fun _ => below_cell (below_new _ _) s1) ?_
  clear hK' K'
  refine wpAnyL_one (i := 11) (by kernel_rfl) rfl (fun K' hK' => ?_)
  refine region_append rfl (.tmp 11) (.tmp 15) 26 rfl rfl rfl hrun ?_
  refine hK'.out _ _ (fun _ => s4) ?_
  clear hK' K'
  refine takeL_at (i := 12) (n := 17) (v := ?_) rfl rfl (by kernel_rfl) (by kernel_rfl) (by decide) (by kernel_rfl) (by kernel_rfl) (by kernel_rfl) (fun _ _ _ h => h) (Or.inl ⟨by rfl, ?_⟩) (by assumption) ?_
  rotate_left 1
  · intro wz hSw
    first | (go_simp; done) | (go_simp; with_reducible rfl)
  simp only [List.set_cons_zero, List.set_cons_succ]
  refine takeL_at (i := 13) (n := 18) (v := ?_) rfl rfl (by kernel_rfl) (by kernel_rfl) (by decide) (by kernel_rfl) (by kernel_rfl) (by kernel_rfl) (fun _ _ _ h => h) (Or.inl ⟨by rfl, ?_⟩) (by assumption) ?_
  rotate_left 1
  · intro wz hSw
    first | (go_simp; done) | (go_simp; with_reducible rfl)
  simp only [List.set_cons_zero, List.set_cons_succ]
  refine takeL_at (i := 14) (n := 19) (v := ?_) rfl rfl (by kernel_rfl) (by kernel_rfl) (by decide) (by kernel_rfl) (by kernel_rfl) (by kernel_rfl) (fun _ _ _ h => h) (Or.inl ⟨by rfl, ?_⟩) (by assumption) ?_
  rotate_left 1
  · intro wz hSw
    first | (go_simp; done) | (go_simp; with_reducible rfl)
  simp only [List.set_cons_zero, List.set_cons_succ]
  refine takeL_at (i := 15) (n := 20) (v := ?_) rfl rfl (by kernel_rfl) (by kernel_rfl) (by decide) (by kernel_rfl) (by kernel_rfl) (by kernel_rfl) (fun _ _ _ h => h) (Or.inl ⟨by rfl, ?_⟩) (by assumption) ?_
  rotate_left 1
  · intro wz hSw
    first | (go_simp; done) | (go_simp; with_reducible rfl)
  simp only [List.set_cons_zero, List.set_cons_succ]
  refine wpAnyL_one (i := 16) (by kernel_rfl) rfl (fun K' hK' => ?_)
  go_simp
  refine hK'.out _ _ (fun h => absurd rfl h) ?_
  clear hK' K'
  refine wpAnyL_done (by kernel_rfl) ?_ _
  refine NoPanic.normal ?_
  obtain ⟨w5, h5⟩ : ∃ w5, w4.setCell ⟨A.R, 0, none⟩ (.slice ad4 (runs.length + 1) c4) = w5 := ⟨_, rfl⟩
  rw [h5] at H4
  rw [h5]
  have c5 := H4.out.1.own.2.2.2.1
  clear hrun s1 l1 s4 f4 l4 hS0 h5
  go_wp2_with fail
  go_loopw [26] (fun i wr => ∃ k : Nat, k ≤ n ∧ i = .int .i64 k ∧ RunW w0 wr A pr tp n (.slice ad4 (runs.length + 1) c4) { x1 with ws := bumpF (x1.es.take k) x1.ws } ∧ Stk wr B (.slice ad4 (runs.length + 1) c4) (runs ++ [f])) (fun i _ => n - (intOf i).toNat)
  case atStart => exact ⟨0, Nat.zero_le _, rfl, H4.out.1, H4.out.2.1⟩
  case round =>
    obtain ⟨k, hk, rfl, hr, hst⟩ := hrel
    by_cases hlt : k < n
    · obtain ⟨e, he⟩ := at_lt hr.ln.1 hlt
      dsimp only at he
      obtain ⟨z, hz⟩ := at_lt H4.out.1.ln.2.2.1 hlt
      obtain ⟨z1, z2⟩ := bumpF_at x1.es x1.ws k e z he hz
      have j6 := (hr.job he).2.2.2.2.2.2.1
      obtain ⟨-, -, d2, d4, -, -⟩ := hr.own
      have jt := hr.waits z1
      have ft := hr.frz.2.2.2 k
      have hki : (k : Int) < (n : Int) := by omega
      have hzr := (HL.out.2 f x1 H4.out.2.2).1 z (List.mem_of_getElem? hz)
      obtain ⟨hz0, hz9⟩ := hzr
      have hTR := hr.ne.1.2.2.1
      have hTJ := hr.ne.2.1.2.1
      by_cases hw : e.wt = -1
      · rw [if_pos hw] at z2
        rw [hw] at j6
        have HS : Hid (RunW w0 wr A pr tp n (.slice ad4 (runs.length + 1) c4) { x1 with ws := bumpF (x1.es.take (k + 1)) x1.ws } ∧ Stk wr B (.slice ad4 (runs.length + 1) c4) (runs ++ [f])) := by
          rw [← z2, set_same z1]
          exact ⟨hr, hst⟩
        clear hr hst he hz z1 z2 hw
        go_wp2_with fail
        exact ⟨⟨k + 1, by omega, by simp, HS.out.1, HS.out.2⟩, by simp [intOf]; omega⟩
      · rw [if_neg hw] at z2
        have hw' : (e.wt != -1) = true := by simpa using hw
        have hs := hr.setT k (z + 1)
        dsimp only at hs
        rw [z2] at hs
        have HS : Hid (RunW w0 (wr.setCell ⟨A.T, k, none⟩ (.int .i64 (z + 1))) A pr tp n (.slice ad4 (runs.length + 1) c4) { x1 with ws := bumpF (x1.es.take (k + 1)) x1.ws } ∧ Stk (wr.setCell ⟨A.T, k, none⟩ (.int .i64 (z + 1))) B (.slice ad4 (runs.length + 1) c4) (runs ++ [f])) := by
          refine ⟨hs, hst.keep (fun q hq => Below.heap_setCell _ _ _ _ ?_)⟩
          have h1 := hst.low hq
          have h2 := HL.out.1.bs.2.2.2.1
          show q ≠ A.T
          omega
        clear hr hst he hz z1 z2 hw hs
        go_wp2_with fail
        exact ⟨⟨k + 1, by omega, by simp, HS.out.1, HS.out.2⟩, by simp [intOf]; omega⟩
    · have hke : k = n := by omega
      subst hke
      have HE : Hid (TI I pr tp k w0 wr A B (now + 1) (runs ++ [f])) := by
        refine ⟨⟨_, _, hr, hst, ?_⟩, HL.out.1⟩
        rw [List.take_of_length_le (by have := H4.out.1.ln.1; omega)]
        exact (HL.out.2 f x1 H4.out.2.2).2
      clear hr hst
      go_wp2_with fail
      go_end0
      exact ⟨rfl, f, HE.out⟩
end Go.Proofs.Ytcmoehednkaehah
