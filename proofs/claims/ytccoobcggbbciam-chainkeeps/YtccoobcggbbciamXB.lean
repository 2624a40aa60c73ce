import Derived.Test.YtccoobcggbbciamFX
namespace Go.Proofs.Ytccoobcggbbciam
open Go.ChangeShapes Go.WideShapes Go.ChangeAt Go.RowKit

theorem heap_new2 (w : World) (o o' : Obj) : ((w.alloc o).alloc o').heap[w.heap.size + 1]? = some o' := by
  have := heap_alloc_new (w.alloc o) o'
  rw [show (w.alloc o).heap.size = w.heap.size + 1 by simp] at this
  exact this

def isTm (n : Int) : Bool := decide (0 ≤ n) && decide (n ≤ 10000)

set_option maxRecDepth 20000 in
theorem isTime_any (w : World) (n : Int) : Calls Try.prog 67 #[.int .i64 n] w fun r w' => r = .returned (.bool (isTm n)) ∧ w' = w := by
  go_enter Try.func67, Try.ntmps67
  go_wp2_with fail
  all_goals
    go_ret
    refine ⟨?_, rfl⟩
    show Ending.returned (Value.bool _) = _
    congr 2
    unfold isTm
    first | (simp; done) | (simp; omega)

set_option maxRecDepth 20000 in
theorem due_any (w : World) (x : Ta) : Calls Try.prog 44 #[x.val] w fun r w' => r = .returned (.bool (decide (x.d ≤ x.t))) ∧ Below w.heap.size w w' := by
  obtain ⟨nm, c, t, d, j, o, p⟩ := x
  unfold Ta.val
  dsimp only
  go_enter Try.func44, Try.ntmps44
  go_wp2_with fail
  go_ret
  exact ⟨rfl, below_new _ _⟩

set_option maxRecDepth 20000 in
theorem notDue_any (w : World) (x : Ta) (g : Nat) (hx : w.cell? ⟨g, 0, none⟩ = some (.func (Fn.func 44) #[] #[])) : Calls Try.prog 66 #[x.val, .pointer (some ⟨g, 0, none⟩)] w fun r w' => r = .returned (.bool (decide (x.t < x.d))) ∧ Below w.heap.size w w' := by
  have HD := fun W => due_any W x
  obtain ⟨nm, c, t, d, j, o, p⟩ := x
  unfold Ta.val at HD ⊢
  dsimp only at HD ⊢
  have hlt : g < w.heap.size := World.block_lt_of_cell? _ _ hx
  go_enter Try.func66, Try.ntmps66
  go_wp2_with (go_at_call 44; refine (HD _).mono ?_; rintro r w1 ⟨rfl, hb1⟩)
  go_ret
  refine ⟨?_, below_seq (below_new _ _) hb1⟩
  show Ending.returned (Value.bool _) = _
  congr 2
  by_cases h : t < d
  · simp [h]
  · simp [h]; omega

set_option maxRecDepth 20000 in
set_option maxHeartbeats 4000000 in
theorem indexDue_any (w : World) (l : List Ta) (v : Value) (g : Nat) (hl : l.length ≤ 1000000) (hv : RowSl Ta.vals w l v) (hx : w.cell? ⟨g, 0, none⟩ = some (.func (Fn.func 44) #[] #[])) : Calls Try.prog 65 #[v, .func (Fn.func 66) #[] #[.pointer (some ⟨g, 0, none⟩)]] w fun r w' => r = .returned (.int .i64 (ordFrom l 0)) ∧ Below w.heap.size w w' := by
  obtain ⟨ad, c, rfl, -, hcap, hrow⟩ := hv
  go_enter Try.func65, Try.ntmps65
  go_wp2_with fail
  have HR : Hid (_ ∧ _) := ⟨hrow, hx⟩
  clear hrow hx
  go_loopw [8] (fun i wr => ∃ j : Nat, j ≤ l.length ∧ i = .int .i64 j ∧ Below w.heap.size w wr ∧ ordFrom (l.drop j) j = ordFrom l 0) (fun i _ => l.length - (intOf i).toNat)
  case atStart => exact ⟨0, Nat.zero_le _, rfl, Below.refl _ _, rfl⟩
  case round =>
    obtain ⟨j, hj, rfl, hb, hf⟩ := hrel
    by_cases hlt : j < l.length
    · obtain ⟨y, hy, hd⟩ := drop_at hlt
      rw [hd, ordFrom] at hf
      rcases HR.out.1 with h | ⟨b, o, rfl, hrow⟩
      · rw [h] at hlt; simp at hlt
      have ha := ta_at (fun q u hq => below_cell hb (hrow q u hq)) hy
      have hx := below_cell hb HR.out.2
      obtain ⟨c0, c1, c2, c3, c4, c5, c6⟩ := ha
      have HY := notDue_any wr y g hx
      unfold Ta.val at HY
      have HB : Hid (Below w.heap.size w wr) := hb
      have HF : Hid (_ = _) := hf
      clear hrow hb hf
      obtain ⟨nm, yc, yt, yd, yj, yo, yp⟩ := y
      dsimp only at *
      by_cases hz : yt < yd
      · have hz' : decide (yt < yd) = true := by simp [hz]
        rw [hz'] at HY
        go_wp2_with (go_at_call 66; refine HY.mono ?_; rintro r w1 ⟨rfl, hb1⟩)
        have e := HF.out
        rw [if_pos hz] at e
        go_ret
        exact ⟨by rw [← e]; rfl, below_seq HB.out hb1⟩
      · have hz' : decide (yt < yd) = false := by simp [hz]
        rw [hz'] at HY
        go_wp2_with (go_at_call 66; refine HY.mono ?_; rintro r w1 ⟨rfl, hb1⟩)
        have e := HF.out
        rw [if_neg (by omega)] at e
        exact ⟨⟨j + 1, by omega, by simp, below_seq HB.out hb1, e⟩, by simp [intOf]; omega⟩
    · have hje : j = l.length := by omega
      subst hje
      rw [List.drop_length, ordFrom] at hf
      go_wp2_with fail
      go_ret
      exact ⟨by rw [← hf]; rfl, hb⟩

theorem FB.endA {w W : World} {g : Nat} (h : FB w W g) (a b : Value) (o : Obj) : (((W.setCell ⟨g, 0, none⟩ a).setCell ⟨g, 1, none⟩ b).alloc o).heap[g]? = some (.cells #[a, b] 29 (0, 0)) ∧ Below w.heap.size w (((W.setCell ⟨g, 0, none⟩ a).setCell ⟨g, 1, none⟩ b).alloc o) := by
  have h1 := set_two (a := a) (b := b) h.res
  have h2 := h.set a b
  exact ⟨((below_new _ o).block g (Array.getElem?_eq_some_iff.1 h1).1).trans h1, h2.alloc h2.size o⟩

theorem check_ends {w : World} {g : Nat} {c k : Value} {a : Act} (h : w.heap[g]? = some (.cells #[c, k] 29 (0, 0))) (h3 : a.tmps[4]?.getD undef = .pointer (some ⟨g, 0, none⟩)) :
    (results Try.f43 a.tmps).run Try.prog w = .ok (.agg #[c, k]) w := by
  obtain ⟨c1, f1, l1⟩ := cells_of (l := [_, _]) h
  have c10 := c1 0 _ rfl
  have c11 := c1 1 _ rfl
  simp [results, Try.results43, go_sem, h3, c10, c11]

set_option maxRecDepth 20000 in
set_option maxHeartbeats 4000000 in
theorem check_any (w : World) (l : List Ta) (v : Value) (hl : l.length ≤ 1000000) (hv : RowSl Ta.vals w l v) : Calls Try.prog 43 #[v, .func (Fn.func 44) #[] #[]] w fun r w' => r = .returned (.agg #[.int .i64 (chkX l).1, .int .i64 (chkX l).2]) ∧ Below w.heap.size w w' := by
  obtain ⟨ad, c, rfl⟩ := hv.len
  have HV : Hid (RowSl Ta.vals w l (.slice ad l.length c)) := hv
  clear hv
  unfold chkX
  have HF : Hid (FB w ((w.alloc (.cells #[.func (Fn.func 44) #[] #[]] 87)).alloc (.cells #[.int .i64 0, .int .i64 0] 29)) (w.heap.size + 1)) := ⟨below_seq (below_new _ _) (below_new _ _), heap_new2 _ _ _, by omega⟩
  have HX : Hid (((w.alloc (.cells #[.func (Fn.func 44) #[] #[]] 87)).alloc (.cells #[.int .i64 0, .int .i64 0] 29)).cell? ⟨w.heap.size, 0, none⟩ = some (.func (Fn.func 44) #[] #[])) := by
    show _ = _
    go_simp
  by_cases h0 : (chkF l).1 ≠ 0
  · rw [if_pos h0]
    have hzb : ((chkF l).1 != 0) = true := by simpa using h0
    go_enter Try.func43, Try.ntmps43
    go_wp2_with (go_at_call 64; refine (Check_any _ l _ (HV.out.below HF.out.bel)).mono ?_; rintro r w1 ⟨rfl, hb1⟩; have H1 : Hid (FB w w1 (w.heap.size + 1)) := HF.out.grow hb1; obtain ⟨rs1, rf1, rl1⟩ := cells_of (l := [_, _]) H1.out.res; have r10 := rs1 0 _ rfl; have r11 := rs1 1 _ rfl; have f10 := rf1 0; have f11 := rf1 1; clear rs1 rf1 hb1)
    refine bodyPost_ret (check_ends (H1.out.endA _ _ _).1 rfl) rfl ?_
    exact ⟨rfl, (H1.out.endA _ _ _).2⟩
  · rw [if_neg h0]
    have hz : (chkF l).1 = 0 := by omega
    go_enter Try.func43, Try.ntmps43
    go_wp2_with (go_at_call 64; refine (Check_any _ l _ (HV.out.below HF.out.bel)).mono ?_; rintro r w1 ⟨rfl, hb1⟩; rw [hz]; have H1 : Hid (FB w (w1.alloc (.cells #[.int .i64 0, .int .i64 (chkF l).2] 29)) (w.heap.size + 1)) := (HF.out.grow hb1).grow (below_new _ _); have HI := indexDue_any (w1.alloc (.cells #[.int .i64 0, .int .i64 (chkF l).2] 29)) l _ w.heap.size hl (HV.out.below H1.out.bel) (below_cell (below_seq hb1 (below_new _ _)) HX.out); clear hb1)
    go_wp2_with (go_at_call 65; refine HI.mono ?_; rintro r w2 ⟨rfl, hb2⟩; have H2 : Hid (FB w w2 (w.heap.size + 1)) := H1.out.grow hb2; obtain ⟨rs1, rf1, rl1⟩ := cells_of (l := [_, _]) H2.out.res; have r10 := rs1 0 _ rfl; have r11 := rs1 1 _ rfl; have f10 := rf1 0; have f11 := rf1 1; clear rs1 rf1 hb2 HI)
    all_goals
      refine bodyPost_ret (check_ends (set_two H2.out.res) rfl) rfl ?_
      exact ⟨rfl, H2.out.set _ _⟩
end Go.Proofs.Ytccoobcggbbciam
namespace Go.Proofs.Ytccoobcggbbciam
open Go.ChangeShapes Go.WideShapes Go.ChangeAt Go.RowKit

set_option maxRecDepth 20000 in
theorem aheadP_any (w : World) (l : List Ta) (v : Value) (gs gi i k : Nat) (hi : i < l.length) (hk : k < l.length) (hv : RowSl Ta.vals w l v) (h1 : w.cell? ⟨gs, 0, none⟩ = some v) (h2 : w.cell? ⟨gi, 0, none⟩ = some (.int .i64 (i : Int))) : Calls Try.prog 69 #[.int .i64 (k : Int), .pointer (some ⟨gs, 0, none⟩), .pointer (some ⟨gi, 0, none⟩)] w fun r w' => r = .returned (.bool (aheadP l i k)) ∧ Below w.heap.size w w' := by
  obtain ⟨ad, c, rfl, -, hcap, hrow⟩ := hv
  rcases hrow with h | ⟨b, o, rfl, hrow⟩
  · rw [h] at hi; simp at hi
  obtain ⟨-, -, -, -, -, -, ci⟩ := ta_at hrow (Tk_get hi)
  obtain ⟨-, -, -, -, -, -, ck⟩ := ta_at hrow (Tk_get hk)
  have hi' : (i : Int) < (l.length : Int) := by omega
  have hk' : (k : Int) < (l.length : Int) := by omega
  clear hrow
  go_enter Try.func69, Try.ntmps69
  go_wp2_with fail
  refine wp_region_noPanic ?_
  refine wp_region_held_drew (S := fun w' => w'.cell? ⟨gs, 0, none⟩ = some (.slice (some ⟨b, o, none⟩) l.length c) ∧ w'.cell? ⟨gi, 0, none⟩ = some (.int .i64 (i : Int)) ∧ w'.cell? ⟨b, o + i * 7 + 6, none⟩ = some (.int .i64 (Tk l i).p) ∧ w'.cell? ⟨b, o + k * 7 + 6, none⟩ = some (.int .i64 (Tk l k).p)) (by kernel_rfl) ⟨h1, h2, ci, ck⟩ (fun hHeld => ?_)
  refine take_at (i := 0) (n := 5) (v := ?_) rfl rfl (by kernel_rfl) (by kernel_rfl) (by kernel_rfl) (fun _ _ _ h => h) (Or.inl ⟨by rfl, ?_⟩) (by assumption) ?_
  rotate_left 1
  · intro wz hSw
    obtain ⟨k0, k1, k2, k3⟩ := hSw
    first | (go_simp; done) | (go_simp; with_reducible rfl)
  simp only [List.set_cons_zero, List.set_cons_succ]
  refine take_at (i := 1) (n := 6) (v := ?_) rfl rfl (by kernel_rfl) (by kernel_rfl) (by kernel_rfl) (fun _ _ _ h => h) (Or.inl ⟨by rfl, ?_⟩) (by assumption) ?_
  rotate_left 1
  · intro wz hSw
    obtain ⟨k0, k1, k2, k3⟩ := hSw
    first | (go_simp; done) | (go_simp; with_reducible rfl)
  simp only [List.set_cons_zero, List.set_cons_succ]
  refine take_at (i := 2) (n := 7) (v := ?_) rfl rfl (by kernel_rfl) (by kernel_rfl) (by kernel_rfl) (fun _ _ _ h => h) (Or.inl ⟨by rfl, ?_⟩) (by assumption) ?_
  rotate_left 1
  · intro wz hSw
    obtain ⟨k0, k1, k2, k3⟩ := hSw
    first | (go_simp; done) | (go_simp; with_reducible rfl)
  simp only [List.set_cons_zero, List.set_cons_succ]
  refine take_at (i := 3) (n := 8) (v := ?_) rfl rfl (by kernel_rfl) (by kernel_rfl) (by kernel_rfl) (fun _ _ _ h => h) (Or.inl ⟨by rfl, ?_⟩) (by assumption) ?_
  rotate_left 1
  · intro wz hSw
    obtain ⟨k0, k1, k2, k3⟩ := hSw
    first | (go_simp; done) | (go_simp; with_reducible rfl)
  simp only [List.set_cons_zero, List.set_cons_succ]
  refine take_at (i := 4) (n := 9) (v := ?_) rfl rfl (by kernel_rfl) (by kernel_rfl) (by kernel_rfl) (fun _ _ _ h => h) (Or.inl ⟨by rfl, ?_⟩) (by assumption) ?_
  rotate_left 1
  · intro wz hSw
    obtain ⟨k0, k1, k2, k3⟩ := hSw
    first | (go_simp; done) | (go_simp; with_reducible rfl)
  simp only [List.set_cons_zero, List.set_cons_succ]
  refine take_at (i := 5) (n := 10) (v := ?_) rfl rfl (by kernel_rfl) (by kernel_rfl) (by kernel_rfl) (fun _ _ _ h => h) (Or.inl ⟨by rfl, ?_⟩) (by assumption) ?_
  rotate_left 1
  · intro wz hSw
    obtain ⟨k0, k1, k2, k3⟩ := hSw
    first | (go_simp; done) | (go_simp; with_reducible rfl)
  simp only [List.set_cons_zero, List.set_cons_succ]
  refine take_at (i := 6) (n := 11) (v := ?_) rfl rfl (by kernel_rfl) (by kernel_rfl) (by kernel_rfl) (fun _ _ _ h => h) (Or.inl ⟨by rfl, ?_⟩) (by assumption) ?_
  rotate_left 1
  · intro wz hSw
    obtain ⟨k0, k1, k2, k3⟩ := hSw
    first | (go_simp; done) | (go_simp; with_reducible rfl)
  simp only [List.set_cons_zero, List.set_cons_succ]
  refine take_at (i := 7) (n := 12) (v := ?_) rfl rfl (by kernel_rfl) (by kernel_rfl) (by kernel_rfl) (fun _ _ _ h => h) (Or.inl ⟨by rfl, ?_⟩) (by assumption) ?_
  rotate_left 1
  · intro wz hSw
    obtain ⟨k0, k1, k2, k3⟩ := hSw
    first | (go_simp; done) | (go_simp; with_reducible rfl)
  simp only [List.set_cons_zero, List.set_cons_succ]
  refine take_at (i := 8) (n := 13) (v := ?_) rfl rfl (by kernel_rfl) (by kernel_rfl) (by kernel_rfl) (fun _ _ _ h => h) (Or.inl ⟨by rfl, ?_⟩) (by assumption) ?_
  rotate_left 1
  · intro wz hSw
    obtain ⟨k0, k1, k2, k3⟩ := hSw
    first | (go_simp; done) | (go_simp; with_reducible rfl)
  simp only [List.set_cons_zero, List.set_cons_succ]
  refine take_at (i := 9) (n := 14) (v := ?_) rfl rfl (by kernel_rfl) (by kernel_rfl) (by kernel_rfl) (fun _ _ _ h => h) (Or.inl ⟨by rfl, ?_⟩) (by assumption) ?_
  rotate_left 1
  · intro wz hSw
    obtain ⟨k0, k1, k2, k3⟩ := hSw
    first | (go_simp; done) | (go_simp; with_reducible rfl)
  simp only [List.set_cons_zero, List.set_cons_succ]
  refine take_at (i := 10) (n := 15) (v := ?_) rfl rfl (by kernel_rfl) (by kernel_rfl) (by kernel_rfl) (fun _ _ _ h => h) (Or.inl ⟨by rfl, ?_⟩) (by assumption) ?_
  rotate_left 1
  · intro wz hSw
    obtain ⟨k0, k1, k2, k3⟩ := hSw
    first | (go_simp; done) | (go_simp; with_reducible rfl)
  simp only [List.set_cons_zero, List.set_cons_succ]
  refine take_at (i := 11) (n := 4) (v := ?_) rfl rfl (by kernel_rfl) (by kernel_rfl) (by kernel_rfl) (fun _ _ _ h => h) (Or.inl ⟨by rfl, ?_⟩) (by assumption) ?_
  rotate_left 1
  · intro wz hSw
    obtain ⟨k0, k1, k2, k3⟩ := hSw
    first | (go_simp; done) | (go_simp; with_reducible rfl)
  simp only [List.set_cons_zero, List.set_cons_succ]
  refine wpAnyH_done (by kernel_rfl) ?_ _
  refine NoPanic.normal ?_
  go_wp2_with fail
  go_ret
  exact ⟨rfl, (Below.refl _ _).drew⟩
end Go.Proofs.Ytccoobcggbbciam
