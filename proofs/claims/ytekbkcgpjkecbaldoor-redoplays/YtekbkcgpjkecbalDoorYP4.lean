import Derived.Test.YtekbkcgpjkecbalDoorYP3
import Derived.Test.YtekbkcgpjkecbalDoorZB
namespace Go.Proofs.YtekbkcgpjkecbalDoor.S8
open Go.ChangeShapes Go.WideShapes Go.ChangeAt Go.RowKit Go.Sort

def fillE (n k : Nat) : List Int := List.replicate k (-1) ++ List.replicate (n - k) 0
theorem fillE_set {n k : Nat} (h : k < n) : (fillE n k).set k (-1) = fillE n (k + 1) := by
  unfold fillE
  rw [List.set_append_right _ _ (by simp)]
  obtain ⟨m, hm⟩ : ∃ m, n - k = m + 1 := ⟨n - k - 1, by omega⟩
  rw [hm, List.replicate_succ, show n - (k + 1) = m by omega, List.replicate_succ']
  simp
theorem fillE_zero (n : Nat) : fillE n 0 = List.replicate n 0 := by simp [fillE]
theorem fillE_full (n : Nat) : fillE n n = List.replicate n (-1) := by simp [fillE]
theorem fillE_len {n k : Nat} (h : k ≤ n) : (fillE n k).length = n := by simp [fillE]; omega

theorem Own.rowSl {W : World} {B : Nat} {v : Value} {l : List Int} (h : Own W B v l) : RowSl nuV W l v := by
  rcases h.cases with ⟨rfl, rfl⟩ | ⟨g, cap, cur, rfl, -, hg, hc, -⟩
  · exact RowSl.nil _ _
  · refine ⟨_, _, rfl, (fun e => by cases e), hc, .inr ⟨g, 0, rfl, fun q u hq => ?_⟩⟩
    rw [zI_flat] at hq
    rw [Nat.zero_add]
    obtain ⟨z, hz, rfl⟩ : ∃ z, l[q]? = some z ∧ Value.int .i64 z = u := by
      rw [List.getElem?_map] at hq
      cases e : l[q]? with
      | none => rw [e] at hq; cases hq
      | some z => rw [e] at hq; exact ⟨z, rfl, Option.some.inj hq⟩
    exact h.cell hz

theorem row_blk {W : World} {g n : Nat} {l : List Int} (h : W.heap[g]? = some (.cells (l.map (Value.int .i64)).toArray 3 (0, 0))) (hn : n = l.length) : RowSl nuV W l (.slice (some ⟨g, 0, none⟩) n n) := by
  subst hn
  refine ⟨_, _, rfl, (fun e => by cases e), Nat.le_refl _, .inr ⟨g, 0, rfl, fun q u hq => ?_⟩⟩
  rw [Nat.zero_add]
  rw [zI_flat] at hq
  exact (cells_of h).1 q u hq

theorem from_K9 {P : Program} {c : Code} {q : Exit → Act → World → Prop} {K : Act → World → Prop} (h : ∀ a w, Code.wp P c q a w → K a w) (a : Act) (w : World) (g : Code.wp P c q a w) : K a w := h a w g

set_option maxRecDepth 20000 in
set_option maxHeartbeats 4000000 in
theorem PlayAnew_good (w : World) (l : List Jb) (sp : Int) (fs : List Int) (n : Nat) (v vf : Value) (hv : RowSl Jb.vals w l v) (hf : RowSl nuV w fs vf) (hgood : (chkR l sp fs (n : Int)).1 = 0) :
    Calls Tryd.prog 14 #[v, .int .i64 sp, vf, .int .i64 (n : Int)] w fun r W => ∃ q v1 v2, r = .returned (.tuple #[.agg #[v1, v2], .agg #[.int .i64 0, .int .i64 0]]) ∧ PlaysR l sp (fun t => decide ((t : Int) ∈ fs)) n q ∧ RowSl nuV W q.s.runs v1 ∧ RowSl nuV W q.s.ends v2 ∧ Below w.heap.size w W := by
  have HC := CheckJobs_any ((w.alloc (.cells #[.slice none 0 0, .slice none 0 0] 43)).alloc (.cells #[.int .i64 0, .int .i64 0] 30)) l v (hv.below (TD.start w).bel)
  have HS : Hid (TD w ((w.alloc (.cells #[.slice none 0 0, .slice none 0 0] 43)).alloc (.cells #[.int .i64 0, .int .i64 0] 30))) := TD.start w
  obtain ⟨k1, k2, k3, k4, k5, -⟩ := chkR_ok hgood
  obtain ⟨kl, kok, k7⟩ := chkJ_ok k1
  have hsp : 0 ≤ sp ∧ sp ≤ 10000 := by unfold within at k2; simpa using k2
  have hn : n ≤ 20000 := by unfold within at k3; simp at k3; omega
  have HV : Hid (RowSl Jb.vals w l v ∧ RowSl nuV w fs vf ∧ fs.Pairwise (· < ·) ∧ ∀ x ∈ l, okJ x) := ⟨hv, hf, k5, kok⟩
  obtain ⟨ad, c, rfl⟩ := hv.len
  obtain ⟨fad, fc, rfl, -, hcap, hrow⟩ := hf
  have HR : Hid (fs = [] ∨ ∃ b o, fad = some ⟨b, o, none⟩ ∧ ∀ q u, (fs.flatMap nuV)[q]? = some u → w.cell? ⟨b, o + q, none⟩ = some u) := hrow
  rw [k7] at HC
  dsimp only at HC
  have q1b : decide (sp < 0) = false := decide_eq_false (by omega)
  have q2b : decide (10000 < sp) = false := decide_eq_false (by omega)
  have q3b : decide ((n : Int) < 0) = false := decide_eq_false (by omega)
  have q4b : decide (20000 < (n : Int)) = false := decide_eq_false (by omega)
  have h4' : ¬ (4000 : Int) < (fs.length : Int) := by omega
  have q1c : ¬ sp < 0 := by omega
  have q2c : ¬ 10000 < sp := by omega
  have q4c : ¬ 20000 < (n : Int) := by omega
  clear hv hrow hgood k1 k2 k3 k7
  go_enter Tryd.func14, Tryd.ntmps14
  go_upto_region 2 with (go_at_call 35; refine HC.mono ?_; rintro r w1 ⟨rfl, hb1⟩; have H1 : Hid (TD w (w1.alloc (.cells #[.int .i64 0, .int .i64 0] 30))) := (HS.out.grow hb1).grow (below_new _ _); clear hb1 HC HS)
  obtain ⟨gs, -, gl⟩ := cells_of (l := [_, _]) (heap_alloc_new w1 (.cells #[.int .i64 0, .int .i64 0] 30))
  have g0 := gs 0 _ rfl
  clear gs
  generalize w1.alloc (.cells #[.int .i64 0, .int .i64 0] 30) = w2 at *
  go_wp2_with fail
  clear g0 gl
  go_loopw [11] (fun iv wr => ∃ k : Nat, iv = .int .i64 ((k : Int) + 1) ∧ (k = 0 ∨ k < fs.length) ∧ (∃ nq, wr = w2.drewN nq)) (fun iv _ => fs.length + 2 - (intOf iv).toNat)
  case atStart => exact ⟨0, rfl, .inl rfl, ⟨0, rfl⟩⟩
  case round =>
    obtain ⟨m, rfl, hk, ⟨nq, rfl⟩⟩ := hrel
    by_cases hlt : m + 1 < fs.length
    · obtain ⟨x, hx, hd⟩ := drop_at hlt
      obtain ⟨p, hp⟩ : ∃ p, fs[m]? = some p := ⟨_, List.getElem?_eq_getElem (by omega)⟩
      rcases HR.out with h | ⟨b, o, rfl, hrow⟩
      · rw [h] at hlt; simp at hlt
      have c1 := below_cell (below_seq H1.out.bel (below_drewN' (n := nq))) (nuV_at hrow hx)
      have c0 := below_cell (below_seq H1.out.bel (below_drewN' (n := nq))) (nuV_at hrow hp)
      have hxp : ¬ x ≤ p := by
        obtain ⟨i1, e1⟩ := List.getElem?_eq_some_iff.1 hx
        obtain ⟨i2, e2⟩ := List.getElem?_eq_some_iff.1 hp
        have := List.pairwise_iff_getElem.1 k5 m (m + 1) i2 i1 (by omega)
        omega
      have hm0 : (0 : Int) < (m : Int) + 1 := by omega
      have hm3 : (0 : Int) ≤ (m : Int) + 1 := by omega
      have hm4 : ((m : Int) + 1).toNat = m + 1 := by omega
      have hmw : IntKind.i64.wrap ((m : Int) + 1 - 1) = (m : Int) := by rw [IntKind.wrap_i64]; omega
      have hmw2 : IntKind.i64.wrap (m : Int) = (m : Int) := by rw [IntKind.wrap_i64]; omega
      have hm1 : (m : Int) < (fs.length : Int) := by omega
      have hm2 : (m : Int) + 1 < (fs.length : Int) := by omega
      have hmx : IntKind.i64.wrap ((m : Int) + 1 + 1) = (m : Int) + 1 + 1 := by rw [IntKind.wrap_i64]; omega
      clear hx hd hp hrow
      go_wp2_with fail
      refine wp_region_noPanic ?_
      refine wp_region_held_drew (S := fun w' => w'.cell? ⟨b, o + (m + 1), none⟩ = some (.int .i64 x) ∧ w'.cell? ⟨b, o + m, none⟩ = some (.int .i64 p)) (by kernel_rfl) ⟨c1, c0⟩ (fun hHeld => ?_)
      refine take_at (i := 0) (n := 55) (v := ?_) rfl rfl (by kernel_rfl) (by kernel_rfl) (by kernel_rfl) (fun _ _ _ h => h) (Or.inl ⟨by rfl, ?_⟩) (by assumption) ?_
      rotate_left 1
      · intro wz hSw
        obtain ⟨s0, s1⟩ := hSw
        first | (go_simp; done) | (go_simp; with_reducible rfl)
      simp only [List.set_cons_zero, List.set_cons_succ]
      refine take_at (i := 1) (n := 56) (v := ?_) rfl rfl (by kernel_rfl) (by kernel_rfl) (by kernel_rfl) (fun _ _ _ h => h) (Or.inl ⟨by rfl, ?_⟩) (by assumption) ?_
      rotate_left 1
      · intro wz hSw
        obtain ⟨s0, s1⟩ := hSw
        first | (go_simp; done) | (go_simp; with_reducible rfl)
      simp only [List.set_cons_zero, List.set_cons_succ]
      refine take_at (i := 2) (n := 57) (v := ?_) rfl rfl (by kernel_rfl) (by kernel_rfl) (by kernel_rfl) (fun _ _ _ h => h) (Or.inl ⟨by rfl, ?_⟩) (by assumption) ?_
      rotate_left 1
      · intro wz hSw
        obtain ⟨s0, s1⟩ := hSw
        first | (go_simp; done) | (go_simp; with_reducible rfl)
      simp only [List.set_cons_zero, List.set_cons_succ]
      refine take_at (i := 3) (n := 58) (v := ?_) rfl rfl (by kernel_rfl) (by kernel_rfl) (by kernel_rfl) (fun _ _ _ h => h) (Or.inl ⟨by rfl, ?_⟩) (by assumption) ?_
      rotate_left 1
      · intro wz hSw
        obtain ⟨s0, s1⟩ := hSw
        first | (go_simp; done) | (go_simp; with_reducible rfl)
      simp only [List.set_cons_zero, List.set_cons_succ]
      refine take_at (i := 4) (n := 59) (v := ?_) rfl rfl (by kernel_rfl) (by kernel_rfl) (by kernel_rfl) (fun _ _ _ h => h) (Or.inl ⟨by rfl, ?_⟩) (by assumption) ?_
      rotate_left 1
      · intro wz hSw
        obtain ⟨s0, s1⟩ := hSw
        first | (go_simp; done) | (go_simp; with_reducible rfl)
      simp only [List.set_cons_zero, List.set_cons_succ]
      refine take_at (i := 5) (n := 60) (v := ?_) rfl rfl (by kernel_rfl) (by kernel_rfl) (by kernel_rfl) (fun _ _ _ h => h) (Or.inl ⟨by rfl, ?_⟩) (by assumption) ?_
      rotate_left 1
      · intro wz hSw
        obtain ⟨s0, s1⟩ := hSw
        first | (go_simp; done) | (go_simp; with_reducible rfl)
      simp only [List.set_cons_zero, List.set_cons_succ]
      refine take_at (i := 6) (n := 61) (v := ?_) rfl rfl (by kernel_rfl) (by kernel_rfl) (by kernel_rfl) (fun _ _ _ h => h) (Or.inl ⟨by rfl, ?_⟩) (by assumption) ?_
      rotate_left 1
      · intro wz hSw
        obtain ⟨s0, s1⟩ := hSw
        first | (go_simp; done) | (go_simp; with_reducible rfl)
      simp only [List.set_cons_zero, List.set_cons_succ]
      refine take_at (i := 7) (n := 62) (v := ?_) rfl rfl (by kernel_rfl) (by kernel_rfl) (by kernel_rfl) (fun _ _ _ h => h) (Or.inl ⟨by rfl, ?_⟩) (by assumption) ?_
      rotate_left 1
      · intro wz hSw
        obtain ⟨s0, s1⟩ := hSw
        first | (go_simp; done) | (go_simp; with_reducible rfl)
      simp only [List.set_cons_zero, List.set_cons_succ]
      refine take_at (i := 8) (n := 63) (v := ?_) rfl rfl (by kernel_rfl) (by kernel_rfl) (by kernel_rfl) (fun _ _ _ h => h) (Or.inl ⟨by rfl, ?_⟩) (by assumption) ?_
      rotate_left 1
      · intro wz hSw
        obtain ⟨s0, s1⟩ := hSw
        first | (go_simp; done) | (go_simp; with_reducible rfl)
      simp only [List.set_cons_zero, List.set_cons_succ]
      refine take_at (i := 9) (n := 64) (v := ?_) rfl rfl (by kernel_rfl) (by kernel_rfl) (by kernel_rfl) (fun _ _ _ h => h) (Or.inl ⟨by rfl, ?_⟩) (by assumption) ?_
      rotate_left 1
      · intro wz hSw
        obtain ⟨s0, s1⟩ := hSw
        first | (go_simp; done) | (go_simp; with_reducible rfl)
      simp only [List.set_cons_zero, List.set_cons_succ]
      refine wpAnyH_done (by kernel_rfl) ?_ _
      refine NoPanic.normal ?_
      clear hHeld
      go_wp2_with fail
      exact ⟨⟨m + 1, by simp, .inr (by omega), ⟨nq + 1, rfl⟩⟩, by simp [intOf]; omega⟩
    have hmn : ¬ (m : Int) + 1 < (fs.length : Int) := by omega
    have H2 : Hid (TD w (w2.drewN nq)) := H1.out.grow (below_drewN' (n := nq))
    clear H1
    generalize w2.drewN nq = w3 at *
    go_upto_region 13 with fail
    go_cut [12, 13] from 68 to 73 (fun va vb wc => ∃ sb fb, va = .slice (some ⟨sb, 0, none⟩) l.length l.length ∧ vb = .slice (some ⟨fb, 0, none⟩) l.length l.length ∧ Below w3.heap.size w3 wc ∧ wc.heap[sb]? = some (.cells (repCells l.length 0).toArray 3 (0, 0)) ∧ wc.heap[fb]? = some (.cells (repCells l.length 0).toArray 3 (0, 0)) ∧ sb ≠ fb ∧ w3.heap.size ≤ sb ∧ w3.heap.size ≤ fb)
    case first =>
      have hS0 : (fun _ : World => True) w3.drew := trivial
      refine wp_region_noPanic ?_
      refine wp_region_held_drew (S := fun _ => True) (by kernel_rfl) hS0 (fun hHeld => ?_)
      refine take_at (i := 0) (n := 68) (v := ?_) rfl rfl (by kernel_rfl) (by kernel_rfl) (by kernel_rfl) (fun _ _ _ h => h) (Or.inl ⟨by rfl, ?_⟩) (by assumption) ?_
      rotate_left 1
      · intro wz hSw
        first | (go_simp; done) | (go_simp; with_reducible rfl)
      simp only [List.set_cons_zero, List.set_cons_succ]
      refine take_at (i := 1) (n := 69) (v := ?_) rfl rfl (by kernel_rfl) (by kernel_rfl) (by kernel_rfl) (fun _ _ _ h => h) (Or.inl ⟨by rfl, ?_⟩) (by assumption) ?_
      rotate_left 1
      · intro wz hSw
        first | (go_simp; done) | (go_simp; with_reducible rfl)
      simp only [List.set_cons_zero, List.set_cons_succ]
      refine take_at (i := 3) (n := 71) (v := ?_) rfl rfl (by kernel_rfl) (by kernel_rfl) (by kernel_rfl) (fun _ _ _ h => h) (Or.inl ⟨by rfl, ?_⟩) (by assumption) ?_
      rotate_left 1
      · intro wz hSw
        first | (go_simp; done) | (go_simp; with_reducible rfl)
      simp only [List.set_cons_zero, List.set_cons_succ]
      refine take_at (i := 4) (n := 72) (v := ?_) rfl rfl (by kernel_rfl) (by kernel_rfl) (by kernel_rfl) (fun _ _ _ h => h) (Or.inl ⟨by rfl, ?_⟩) (by assumption) ?_
      rotate_left 1
      · intro wz hSw
        first | (go_simp; done) | (go_simp; with_reducible rfl)
      simp only [List.set_cons_zero, List.set_cons_succ]
      have HW0 : Hid (Below w3.heap.size w3 w3.drew ∧ w3.heap.size ≤ w3.drew.heap.size) := ⟨(Below.refl _ _).drew, Nat.le_refl _⟩
      generalize w3.drew = W0 at *
      refine wpAnyH_ready (rs := [2, 5]) (by kernel_rfl) (by simp) ?_
      refine AllReadyH.cons rfl (fun K' hK' => ?_) (AllReadyH.cons rfl (fun K' hK' => ?_) AllReadyH.nil)
      · skip
        obtain ⟨wn1, hmk1, hb1, hh1⟩ := make_ex W0 l.length (by omega)
        go_simp
        refine hK'.out _ _ trivial (fun hHeld => ?_)
        clear hK' K'
        refine take_at (i := 6) (n := 12) (v := ?_) rfl rfl (by kernel_rfl) (by kernel_rfl) (by kernel_rfl) (fun _ _ _ h => h) (Or.inl ⟨by rfl, ?_⟩) (by assumption) ?_
        rotate_left 1
        · intro wz hSw
          first | (go_simp; done) | (go_simp; with_reducible rfl)
        simp only [List.set_cons_zero, List.set_cons_succ]
        refine wpAnyH_ready (rs := [5]) (by kernel_rfl) (by simp) ?_
        refine AllReadyH.cons rfl (fun K' hK' => ?_) AllReadyH.nil
        obtain ⟨wn2, hmk2, hb2, hh2⟩ := make_ex wn1 l.length (by omega)
        go_simp
        refine hK'.out _ _ trivial (fun hHeld => ?_)
        clear hK' K'
        refine take_at (i := 7) (n := 13) (v := ?_) rfl rfl (by kernel_rfl) (by kernel_rfl) (by kernel_rfl) (fun _ _ _ h => h) (Or.inl ⟨by rfl, ?_⟩) (by assumption) ?_
        rotate_left 1
        · intro wz hSw
          first | (go_simp; done) | (go_simp; with_reducible rfl)
        simp only [List.set_cons_zero, List.set_cons_succ]
        refine wpAnyH_done (by kernel_rfl) ?_ _
        refine NoPanic.normal ?_
        have l1 := lt_of_heap hh1
        have lW := HW0.out.2
        go_wp2_with fail
        go_meet
        case rel =>
          exact ⟨_, _, rfl, rfl, HW0.out.1.trans ((hb1.trans (hb2.mono hb1.size)).mono lW), (hb2.block _ l1).trans hh1, hh2, by omega, lW, by have := hb1.size; omega⟩
      · skip
        obtain ⟨wn1, hmk1, hb1, hh1⟩ := make_ex W0 l.length (by omega)
        go_simp
        refine hK'.out _ _ trivial (fun hHeld => ?_)
        clear hK' K'
        refine wpAnyH_ready (rs := [2]) (by kernel_rfl) (by simp) ?_
        refine AllReadyH.cons rfl (fun K' hK' => ?_) AllReadyH.nil
        obtain ⟨wn2, hmk2, hb2, hh2⟩ := make_ex wn1 l.length (by omega)
        go_simp
        refine hK'.out _ _ trivial (fun hHeld => ?_)
        clear hK' K'
        refine take_at (i := 6) (n := 12) (v := ?_) rfl rfl (by kernel_rfl) (by kernel_rfl) (by kernel_rfl) (fun _ _ _ h => h) (Or.inl ⟨by rfl, ?_⟩) (by assumption) ?_
        rotate_left 1
        · intro wz hSw
          first | (go_simp; done) | (go_simp; with_reducible rfl)
        simp only [List.set_cons_zero, List.set_cons_succ]
        refine take_at (i := 7) (n := 13) (v := ?_) rfl rfl (by kernel_rfl) (by kernel_rfl) (by kernel_rfl) (fun _ _ _ h => h) (Or.inl ⟨by rfl, ?_⟩) (by assumption) ?_
        rotate_left 1
        · intro wz hSw
          first | (go_simp; done) | (go_simp; with_reducible rfl)
        simp only [List.set_cons_zero, List.set_cons_succ]
        refine wpAnyH_done (by kernel_rfl) ?_ _
        refine NoPanic.normal ?_
        have l1 := lt_of_heap hh1
        have lW := HW0.out.2
        go_wp2_with fail
        go_meet
        case rel =>
          exact ⟨_, _, rfl, rfl, HW0.out.1.trans ((hb1.trans (hb2.mono hb1.size)).mono lW), hh2, (hb2.block _ l1).trans hh1, by omega, by have := hb1.size; omega, lW⟩
    case rest =>
      obtain ⟨sb, fb, rfl, rfl, hbc, hsv, hfv, hne, hs1, hf1⟩ := hcut
      have H3 : Hid (TD w wc) := H2.out.grow hbc
      have lt2 : w.heap.size + 1 < w3.heap.size := lt_of_heap H2.out.r2
      obtain ⟨W9, hmk, hb9, hh9⟩ := make_ex wc l.length (by omega)
      have ls := lt_of_heap hsv
      have lf := lt_of_heap hfv
      have le := lt_of_heap hh9
      have hD0 : Hid (DP w (W9.alloc (.cells #[.slice none 0 0, .slice (some ⟨wc.heap.size, 0, none⟩) l.length l.length] 43)) (W9.heap.size + 1) l.length W9.heap.size sb fb wc.heap.size (.slice none 0 0) (List.replicate l.length 0) (List.replicate l.length 0) (fillE l.length 0) []) := by
        have hn9 := below_new W9 (.cells #[.slice none 0 0, .slice (some ⟨wc.heap.size, 0, none⟩) l.length l.length] 43)
        have hT := (H3.out.grow hb9).grow hn9
        refine ⟨hT.bel, hT.r1, hT.r2, heap_alloc_new _ _, ?_, ?_, ?_, ⟨rfl, .inl ⟨rfl, rfl⟩⟩, ⟨by omega, by omega, by omega, by omega⟩, ⟨by omega, by omega, by omega, by omega⟩, ⟨by omega, by omega, by omega, hne, by omega, by omega⟩, by simp⟩
        · rw [hn9.block _ (by omega), hb9.block _ ls, hsv]; simp [repCells]
        · rw [hn9.block _ (by omega), hb9.block _ lf, hfv]; simp [repCells]
        · rw [hn9.block _ le, hh9, fillE_zero]; simp [repCells]
      clear hbc hsv hfv hb9 hh9 H2 H3
      go_upto_region 15 with fail
      generalize hpb : W9.heap.size = pb at *
      generalize heb : wc.heap.size = eb at *
      generalize W9.alloc (.cells #[.slice none 0 0, .slice (some ⟨eb, 0, none⟩) l.length l.length] 43) = wd at *
      generalize hB : pb + 1 = B at *
      clear lt2 hne hs1 hf1 ls lf le hpb heb hB
      go_wp2_with fail
      clear hmk
      go_loopw [80] (fun iv wr => ∃ k : Nat, k ≤ l.length ∧ iv = .int .i64 (k : Int) ∧ DP w wr B l.length pb sb fb eb (.slice none 0 0) (List.replicate l.length 0) (List.replicate l.length 0) (fillE l.length k) []) (fun iv _ => l.length - (intOf iv).toNat)
      case atStart => exact ⟨0, Nat.zero_le _, rfl, hD0.out⟩
      case round =>
        obtain ⟨k, hkl, rfl, hdp⟩ := hrel
        by_cases hlk : k < l.length
        · have hki : (k : Int) < (l.length : Int) := by omega
          obtain ⟨-, p1, lp, -⟩ := hdp.atP
          obtain ⟨e0, ef0⟩ := hdp.atE (i := k) (v := 0) (by rw [fillE_len hkl]; exact hlk) (by unfold fillE L; rw [List.getD_eq_getElem?_getD, List.getElem?_append_right (by simp)]; simp [show 0 < l.length - k by omega])
          have HN : Hid (DP w (wr.setCell ⟨eb, k, none⟩ (.int .i64 (-1))) B l.length pb sb fb eb (.slice none 0 0) (List.replicate l.length 0) (List.replicate l.length 0) (fillE l.length (k + 1)) []) := by
            have e := hdp.setE k (-1)
            rw [fillE_set hlk] at e
            exact e
          clear hdp
          go_wp2_with fail
          exact ⟨⟨k + 1, by omega, by simp, HN.out⟩, by simp [intOf]; omega⟩
        have hke : k = l.length := by omega
        subst hke
        have HD1 : Hid (DP w wr B l.length pb sb fb eb (.slice none 0 0) (List.replicate l.length 0) (List.replicate l.length 0) (List.replicate l.length (-1)) []) := by
          rw [fillE_full] at hdp
          exact hdp
        clear hdp
        generalize wr = we at *
        go_wp2_with fail
        go_loopw [16] (fun tv wr => ∃ (t : Nat) (q : StR) (sf fr : List Int) (ra : Option Addr) (rc : Nat), t ≤ n ∧ tv = .int .i64 (t : Int) ∧ DP w wr B l.length pb sb fb eb (.slice ra q.s.runs.length rc) sf fr q.s.ends q.s.runs ∧ Hid (PlaysR l sp (fun t => decide ((t : Int) ∈ fs)) t q ∧ DR l q sf fr)) (fun tv _ => n - (intOf tv).toNat)
        case atStart => exact ⟨0, StR.init l, _, _, none, 0, Nat.zero_le _, rfl, HD1.out, rfl, DR.init HV.out.2.2.2⟩
        case round =>
          obtain ⟨t, q, sf, fr, ra, rc, ht, rfl, hdp, HP⟩ := hrel
          have HO : Hid (OkR l sp t q) := playsR_ok HV.out.2.2.2 t q HP.out.1
          by_cases hlt2 : t < n
          · have hti : (t : Int) < (n : Int) := by omega
            have htw : IntKind.i64.wrap ((t : Int) + 1) = (t : Int) + 1 := by rw [IntKind.wrap_i64]; omega
            have HDP : Hid (DP w wr B l.length pb sb fb eb (.slice ra q.s.runs.length rc) sf fr q.s.ends q.s.runs) := hdp
            clear hdp
            generalize wr = wR at *
            go_wp2_with fail
            go_loopw [17, 95] (fun bv iv wr => ∃ (k : Nat) (b : Int), k ≤ l.length ∧ bv = .int .i64 b ∧ iv = .int .i64 (k : Int) ∧ Below wR.heap.size wR wr ∧ Hid (BestTo l q.s.left (t : Int) k b)) (fun _ iv _ => l.length - (intOf iv).toNat)
            case atStart => exact ⟨0, -1, Nat.zero_le _, rfl, rfl, Below.refl _ _, .inl ⟨rfl, fun i hi => by omega⟩⟩
            case round =>
              obtain ⟨k, bb, hkl2, rfl, rfl, hbl, HB⟩ := hrel
              have HBL : Hid (Below wR.heap.size wR wr) := hbl
              have hdw := HDP.out.grow hbl
              obtain ⟨p0, p1, lp, lee, lss, lff⟩ := hdw.atP
              by_cases hkk : k < l.length
              · have hki : (k : Int) < (l.length : Int) := by omega
                have hrowj := HV.out.1.below (hdw.bel)
                have hgoes : ∀ i W, Below wr.heap.size wr W → i < l.length → Calls Tryd.prog 36 #[.slice ad l.length c, .int .i64 (k : Int), .int .i64 ((i : Nat) : Int), .int .i64 1] W fun r w' => GoesPost 1 l k i W r w' := fun i W hb hi => Goes_any W l _ k i 1 (hrowj.below hb) (.inl rfl) hkk hi
                have HGO : Hid (∀ i W, Below wr.heap.size wr W → i < l.length → Calls Tryd.prog 36 #[.slice ad l.length c, .int .i64 (k : Int), .int .i64 ((i : Nat) : Int), .int .i64 1] W fun r w' => GoesPost 1 l k i W r w') := hgoes
                clear hgoes
                obtain ⟨ad9, cc9, e9, -, hcap9, hrow9⟩ := hrowj
                cases e9
                rcases hrow9 with h | ⟨jb, jo, rfl, hrow⟩
                · rw [h] at hkk; simp at hkk
                have hjk := (J_okJ HV.out.2.2.2 hkk).2
                obtain ⟨y0, y1, y2, y3, y4⟩ := jb_at hrow hjk
                have lbj : jb < wr.heap.size := World.block_lt_of_cell? _ _ y0
                have hdr := HP.out.2.each k hkk
                obtain ⟨ev, hev⟩ : ∃ ev, L q.s.ends k = ev := ⟨_, rfl⟩
                obtain ⟨ke0, -⟩ := hdw.atE (i := k) (v := ev) (by rw [HO.out.ok.ends]; exact hkk) hev
                rw [hev] at hdr
                obtain ⟨xj, hxj⟩ : ∃ xj, J l k = xj := ⟨_, rfl⟩
                rw [hxj] at y0 y1 y2 y3 y4 hjk
                have HXJ : Hid (J l k = xj) := hxj
                obtain ⟨xk, xa, xc, xd, xp⟩ := xj
                dsimp only at y0 y1 y2 y3 y4
                have kne : ¬ jb = wr.heap.size := by omega
                have pne : ¬ pb = wr.heap.size := by omega
                have ene : ¬ eb = wr.heap.size := by omega
                clear hrow hjk hdw hxj hev
                by_cases s1 : xa ≤ (t : Int)
                rotate_left 1
                · have s1b : decide (xa ≤ (t : Int)) = false := decide_eq_false s1
                  have HN : Hid (BestTo l q.s.left (t : Int) (k + 1) bb) := HB.out.skip (by rw [HXJ.out]; exact fun h => s1 h.1)
                  go_wp2_with fail
                  exact ⟨⟨k + 1, bb, by omega, rfl, by simp, below_seq HBL.out (below_new _ _), HN⟩, by simp [intOf]; omega⟩
                have s1b : decide (xa ≤ (t : Int)) = true := decide_eq_true s1
                by_cases s2 : ev < 0
                rotate_left 1
                · have s2b : decide (ev < 0) = false := decide_eq_false s2
                  have HN : Hid (BestTo l q.s.left (t : Int) (k + 1) bb) := HB.out.skip (by intro h; have := h.2; omega)
                  go_wp2_with fail
                  exact ⟨⟨k + 1, bb, by omega, rfl, by simp, below_seq HBL.out (below_new _ _), HN⟩, by simp [intOf]; omega⟩
                have s2b : decide (ev < 0) = true := decide_eq_true s2
                have hleft : 0 < L q.s.left k := by omega
                by_cases s3 : bb < 0
                · have s3b : decide (bb < 0) = true := decide_eq_true s3
                  have eb1 : bb = -1 := by
                    rcases HB.out with ⟨e, -⟩ | ⟨i, e, -⟩
                    · exact e
                    · omega
                  have HN : Hid (BestTo l q.s.left (t : Int) (k + 1) (k : Int)) := by
                    have e := HB.out
                    rw [eb1] at e
                    exact e.first (by rw [HXJ.out]; exact s1) hleft
                  go_wp2_with fail
                  exact ⟨⟨k + 1, (k : Int), by omega, rfl, by simp, below_seq HBL.out (below_new _ _), HN⟩, by simp [intOf]; omega⟩
                have s3b : decide (bb < 0) = false := decide_eq_false s3
                obtain ⟨bi, hbi, hbl9⟩ : ∃ bi : Nat, bb = (bi : Int) ∧ bi < k := by
                  rcases HB.out with ⟨e, -⟩ | ⟨i, e, hi, -⟩
                  · omega
                  · exact ⟨i, e, hi⟩
                subst hbi
                have HG := HGO.out bi (wr.alloc (.cells #[.int .i64 xk, .int .i64 xa, .int .i64 xc, .int .i64 xd, .int .i64 xp] 40)) (below_new _ _) (by omega)
                by_cases s4 : lexJ 1 l k bi
                · have HN : Hid (BestTo l q.s.left (t : Int) (k + 1) (k : Int)) := HB.out.take (by rw [HXJ.out]; exact s1) hleft s4
                  have HG' := HG.mono (fun r w' (h : GoesPost 1 l k bi _ r w') => (by
                    obtain ⟨b, e1, e2, e3⟩ := h
                    have : b = true := e2.2 s4
                    subst this
                    exact ⟨e1, e3⟩ : r = .returned (.bool true) ∧ Below (wr.alloc (.cells #[.int .i64 xk, .int .i64 xa, .int .i64 xc, .int .i64 xd, .int .i64 xp] 40)).heap.size (wr.alloc (.cells #[.int .i64 xk, .int .i64 xa, .int .i64 xc, .int .i64 xd, .int .i64 xp] 40)) w'))
                  clear HG
                  go_wp2_with (go_at_call 36; refine HG'.mono ?_; rintro r w8 ⟨rfl, hb8⟩; have H8 : Hid (Below wR.heap.size wR w8) := below_seq HBL.out (below_seq (below_new _ _) hb8); clear hb8 HG')
                  exact ⟨⟨k + 1, (k : Int), by omega, rfl, by simp, H8.out, HN⟩, by simp [intOf]; omega⟩
                · have HN : Hid (BestTo l q.s.left (t : Int) (k + 1) (bi : Int)) := HB.out.stay s4
                  have HG' := HG.mono (fun r w' (h : GoesPost 1 l k bi _ r w') => (by
                    obtain ⟨b, e1, e2, e3⟩ := h
                    have : b = false := by cases b with | false => rfl | true => exact absurd (e2.1 rfl) s4
                    subst this
                    exact ⟨e1, e3⟩ : r = .returned (.bool false) ∧ Below (wr.alloc (.cells #[.int .i64 xk, .int .i64 xa, .int .i64 xc, .int .i64 xd, .int .i64 xp] 40)).heap.size (wr.alloc (.cells #[.int .i64 xk, .int .i64 xa, .int .i64 xc, .int .i64 xd, .int .i64 xp] 40)) w'))
                  clear HG
                  go_wp2_with (go_at_call 36; refine HG'.mono ?_; rintro r w8 ⟨rfl, hb8⟩; have H8 : Hid (Below wR.heap.size wR w8) := below_seq HBL.out (below_seq (below_new _ _) hb8); clear hb8 HG')
                  exact ⟨⟨k + 1, (bi : Int), by omega, rfl, by simp, H8.out, HN⟩, by simp [intOf]; omega⟩
              have hke : k = l.length := by omega
              subst hke
              have HBS : Hid (IsBest l 1 q.s.left (t : Int) bb) := HB.out.whole
              have hrl := HO.out.ok.runs
              obtain ⟨na, nc, w4, hrun, hd4, pc4, pf4, pl4⟩ := hdw.push bb (by omega)
              have H4 : Hid (DP w (w4.setCell ⟨pb, 0, none⟩ (.slice na (q.s.runs.length + 1) nc)) B l.length pb sb fb eb (.slice na (q.s.runs.length + 1) nc) sf fr q.s.ends (q.s.runs ++ [bb])) := hd4
              clear hd4 hdw HB hrl hbl
              rcases id HBS.out with ⟨rfl, -⟩ | ⟨z, rfl, hz, hza, hzl, -⟩
              · have HL : Hid (DP w (w4.setCell ⟨pb, 0, none⟩ (.slice na (q.s.runs.length + 1) nc)) B l.length pb sb fb eb (.slice na (q.after sp (decide ((t : Int) ∈ fs)) t (-1)).s.runs.length nc) sf fr (q.after sp (decide ((t : Int) ∈ fs)) t (-1)).s.ends (q.after sp (decide ((t : Int) ∈ fs)) t (-1)).s.runs) := by
                  have e := H4.out
                  rw [afterR_none]
                  show DP _ _ _ _ _ _ _ _ _ _ _ _ _
                  simpa using e
                have HDR : Hid (DR l (q.after sp (decide ((t : Int) ∈ fs)) t (-1)) sf fr) := HP.out.2.none
                clear H4
                go_wp2_with (at_builtin; refine append_known rfl (.tmp 125) (.tmp 127) 36 rfl rfl rfl hrun ?_)
                exact ⟨⟨t + 1, q.after sp (decide ((t : Int) ∈ fs)) t (-1), sf, fr, na, nc, by omega, by simp, HL.out, ⟨q, -1, HP.out.1, HBS.out, rfl⟩, HDR.out⟩, by simp [intOf]; omega⟩
              have hzi : (z : Int) < (l.length : Int) := by omega
              have hzn : ¬ (z : Int) < 0 := by omega
              go_upto_region 32 with (at_builtin; refine append_known rfl (.tmp 125) (.tmp 127) 36 rfl rfl rfl hrun ?_)
              clear hrun pc4 pf4 pl4 p0 p1 lp lee lss lff
              generalize w4.setCell ⟨pb, 0, none⟩ (.slice na (q.s.runs.length + 1) nc) = w6 at *
              obtain ⟨kc, hkc⟩ : ∃ kc, fs.countP (fun y => !decide ((t : Int) ≤ y)) = kc := ⟨_, rfl⟩
              have HSD := SearchD_any w6 fs _ (t : Int) (HV.out.2.1.below H4.out.bel) HV.out.2.2.1 (by omega)
              rw [hkc] at HSD
              have hca := count_at HV.out.2.2.1 (t : Int) kc hkc.symm
              have HCA : Hid (kc ≤ fs.length ∧ ((kc < fs.length ∧ ∀ h : kc < fs.length, fs[kc] = (t : Int)) ↔ (t : Int) ∈ fs)) := hca
              clear hkc hca
              go_upto_region 33 with (go_at_call 37; refine HSD.mono ?_; rintro r w7 ⟨rfl, hb7⟩; have H7 : Hid (DP w w7 B l.length pb sb fb eb (.slice na (q.s.runs.length + 1) nc) sf fr q.s.ends (q.s.runs ++ [(z : Int)])) := H4.out.grow hb7; clear hb7 HSD H4)
              have hzf : z < fr.length := by rw [HP.out.2.lf]; exact hz
              have hzs : z < sf.length := by rw [HP.out.2.ls]; exact hz
              obtain ⟨fv, hfv⟩ : ∃ fv, L fr z = fv := ⟨_, rfl⟩
              obtain ⟨sv, hsv⟩ : ∃ sv, L sf z = sv := ⟨_, rfl⟩
              obtain ⟨f0, ff0⟩ := H7.out.atF hzf hfv
              have hwk := HP.out.2.work (t := t) (sp := sp) HO.out hz hzl HV.out.2.2.2 hsp
              rw [hfv, hsv] at hwk
              have HWK : Hid ((sv + (fv + 1) = (J l z).c ↔ L q.s.left z - 1 = 0) ∧ DR l (q.after sp false t (z : Int)) (if fv + 1 = sp then sf.set z (sv + sp) else sf) (if fv + 1 = sp then (fr.set z (fv + 1)).set z 0 else fr.set z (fv + 1))) := ⟨hwk.1, hwk.2.2.2.2.2⟩
              obtain ⟨-, sv0, sv1, fv0, fv1, -⟩ := hwk
              have HFS : Hid (L fr z = fv ∧ L sf z = sv) := ⟨hfv, hsv⟩
              clear hfv hsv
              by_cases hm : (t : Int) ∈ fs
              · obtain ⟨hc1, hc2⟩ := HCA.out.2.2 hm
                have hkci : (kc : Int) < (fs.length : Int) := by omega
                have hdec : decide ((t : Int) ∈ fs) = true := decide_eq_true hm
                rcases HR.out with h | ⟨fbk, fo, rfl, hrow⟩
                · rw [h] at hm; simp at hm
                have ck := below_cell H7.out.bel (nuV_at hrow (j := kc) (x := (t : Int)) (by rw [List.getElem?_eq_getElem hc1, hc2 hc1]))
                have HL : Hid (DP w (w7.setCell ⟨fb, z, none⟩ (.int .i64 0)) B l.length pb sb fb eb (.slice na (q.after sp (decide ((t : Int) ∈ fs)) t (z : Int)).s.runs.length nc) sf (fr.set z 0) (q.after sp (decide ((t : Int) ∈ fs)) t (z : Int)).s.ends (q.after sp (decide ((t : Int) ∈ fs)) t (z : Int)).s.runs) := by
                  have e := H7.out.setF z 0
                  rw [hdec, afterR_fault]
                  show DP _ _ _ _ _ _ _ _ _ _ _ _ _
                  simpa using e
                have HDR : Hid (DR l (q.after sp (decide ((t : Int) ∈ fs)) t (z : Int)) sf (fr.set z 0)) := by
                  have e := HP.out.2.fault (t := t) (sp := sp) HO.out hz hzl
                  rw [← hdec] at e
                  exact e
                clear hrow hc2
                go_wp2_with fail
                exact ⟨⟨t + 1, q.after sp (decide ((t : Int) ∈ fs)) t (z : Int), sf, fr.set z 0, na, nc, by omega, by simp, HL.out, ⟨q, (z : Int), HP.out.1, HBS.out, rfl⟩, HDR.out⟩, by simp [intOf]; omega⟩
              have hdec : decide ((t : Int) ∈ fs) = false := decide_eq_false hm
              have hfw : IntKind.i64.wrap (fv + 1) = fv + 1 := by rw [IntKind.wrap_i64]; omega
              have HL7 : Hid (DP w (w7.setCell ⟨fb, z, none⟩ (.int .i64 (fv + 1))) B l.length pb sb fb eb (.slice na (q.s.runs.length + 1) nc) sf (fr.set z (fv + 1)) q.s.ends (q.s.runs ++ [(z : Int)])) := H7.out.setF z (fv + 1)
              go_cut [146] from 135 to 146 (fun v wc => v = .bool false ∧ wc = w7)
              case first =>
                by_cases hkl9 : kc < fs.length
                · have hkci : (kc : Int) < (fs.length : Int) := by omega
                  rcases HR.out with h | ⟨fbk, fo, rfl, hrow⟩
                  · rw [h] at hkl9; simp at hkl9
                  have ck := below_cell H7.out.bel (nuV_at hrow (j := kc) (x := fs[kc]) (by simp))
                  have hne9 : ¬ fs[kc] = (t : Int) := fun e => hm (HCA.out.2.1 ⟨hkl9, fun _ => e⟩)
                  generalize fs[kc] = fx at *
                  have hne8 : (fx == (t : Int)) = false := beq_eq_false_iff_ne.2 hne9
                  clear hrow
                  go_wp2_with fail
                  go_meet
                  case rel => exact ⟨rfl, rfl⟩
                · have hkci : ¬ (kc : Int) < (fs.length : Int) := by omega
                  go_wp2_with fail
                  go_meet
                  case rel => exact ⟨by simp, rfl⟩
              case rest =>
              obtain ⟨rfl, rfl⟩ := hcut
              refine from_K9 (by assumption) _ _ ?_
              go_upto_region 36 with fail
              clear f0 ff0
              generalize wc.setCell ⟨fb, z, none⟩ (.int .i64 (fv + 1)) = w9 at *
              obtain ⟨u0, uf0⟩ := HL7.out.at hzs HFS.out.2
              obtain ⟨u1, uf1⟩ := HL7.out.atF (i := z) (v := fv + 1) (by simp; exact hzf) (by rw [L_set hzf, if_pos rfl])
              have hrowj := HV.out.1.below HL7.out.bel
              obtain ⟨ad9, cc9, e9, -, hcap9, hrow9⟩ := hrowj
              cases e9
              rcases hrow9 with h | ⟨jb, jo, rfl, hrow⟩
              · rw [h] at hz; simp at hz
              obtain ⟨-, -, u2, -, -⟩ := jb_at hrow (J_okJ HV.out.2.2.2 hz).2
              obtain ⟨cz, hcz⟩ : ∃ cz, (J l z).c = cz := ⟨_, rfl⟩
              rw [hcz] at u2
              have HCZ : Hid ((J l z).c = cz) := hcz
              have hsw : IntKind.i64.wrap (sv + (fv + 1)) = sv + (fv + 1) := by rw [IntKind.wrap_i64]; omega
              have hsw2 : IntKind.i64.wrap (sv + sp) = sv + sp := by rw [IntKind.wrap_i64]; omega
              clear hcz hrow
              have HLx : Hid (DP w w9.drew B l.length pb sb fb eb (.slice na (q.s.runs.length + 1) nc) sf (fr.set z (fv + 1)) q.s.ends (q.s.runs ++ [(z : Int)])) := HL7.out.grow (show Below w9.heap.size w9 w9.drew from (Below.refl _ _).drew)
              obtain ⟨fne, sne, ene2⟩ : (¬ fb = sb) ∧ (¬ eb = sb) ∧ (¬ eb = fb) := by have := HL7.out.ds; omega
              by_cases hdn : L q.s.left z - 1 = 0
              · have hsum : sv + (fv + 1) = cz := by have := HWK.out.1.2 hdn; rw [HCZ.out] at this; exact this
                have hsb : (sv + (fv + 1) == cz) = true := by simp [hsum]
                clear hsum
                by_cases hcp : fv + 1 = sp
                · have hcb : (fv + 1 == sp) = true := by simp [hcp]
                  have HL : Hid (DP w (((w9.drew.setCell ⟨eb, z, none⟩ (.int .i64 ((t : Int) + 1))).setCell ⟨sb, z, none⟩ (.int .i64 (sv + sp))).setCell ⟨fb, z, none⟩ (.int .i64 0)) B l.length pb sb fb eb (.slice na (q.after sp (decide ((t : Int) ∈ fs)) t (z : Int)).s.runs.length nc) (sf.set z (sv + sp)) ((fr.set z (fv + 1)).set z 0) (q.after sp (decide ((t : Int) ∈ fs)) t (z : Int)).s.ends (q.after sp (decide ((t : Int) ∈ fs)) t (z : Int)).s.runs) := by
                    have e0 := HLx.out
                    have e1 := e0.setE z ((t : Int) + 1)
                    have e2 := (e1.setS z (sv + sp)).setF z 0
                    rw [hdec, afterR_work]
                    dsimp only
                    rw [if_pos hdn]
                    show DP _ _ _ _ _ _ _ _ _ _ _ _ _
                    simpa using e2
                  have HDR : Hid (DR l (q.after sp (decide ((t : Int) ∈ fs)) t (z : Int)) (sf.set z (sv + sp)) ((fr.set z (fv + 1)).set z 0)) := by
                    have e := HWK.out.2
                    rw [if_pos hcp, if_pos hcp, ← hdec] at e
                    exact e
                  clear HWK HL7
                  go_wp2_with fail
                  refine wp_region_noPanic ?_
                  refine wp_region_held_drew (S := fun w' => w'.cell? ⟨sb, z, none⟩ = some (.int .i64 sv) ∧ w'.cell? ⟨fb, z, none⟩ = some (.int .i64 (fv + 1)) ∧ w'.cell? ⟨jb, jo + z * 5 + 2, none⟩ = some (.int .i64 cz)) (by kernel_rfl) ⟨u0, u1, u2⟩ (fun hHeld => ?_)
                  refine take_at (i := 0) (n := 156) (v := ?_) rfl rfl (by kernel_rfl) (by kernel_rfl) (by kernel_rfl) (fun _ _ _ h => h) (Or.inl ⟨by rfl, ?_⟩) (by assumption) ?_
                  rotate_left 1
                  · intro wz hSw
                    obtain ⟨s0, s1, s2⟩ := hSw
                    first | (go_simp; done) | (go_simp; with_reducible rfl)
                  simp only [List.set_cons_zero, List.set_cons_succ]
                  refine take_at (i := 1) (n := 157) (v := ?_) rfl rfl (by kernel_rfl) (by kernel_rfl) (by kernel_rfl) (fun _ _ _ h => h) (Or.inl ⟨by rfl, ?_⟩) (by assumption) ?_
                  rotate_left 1
                  · intro wz hSw
                    obtain ⟨s0, s1, s2⟩ := hSw
                    first | (go_simp; done) | (go_simp; with_reducible rfl)
                  simp only [List.set_cons_zero, List.set_cons_succ]
                  refine take_at (i := 2) (n := 158) (v := ?_) rfl rfl (by kernel_rfl) (by kernel_rfl) (by kernel_rfl) (fun _ _ _ h => h) (Or.inl ⟨by rfl, ?_⟩) (by assumption) ?_
                  rotate_left 1
                  · intro wz hSw
                    obtain ⟨s0, s1, s2⟩ := hSw
                    first | (go_simp; done) | (go_simp; with_reducible rfl)
                  simp only [List.set_cons_zero, List.set_cons_succ]
                  refine take_at (i := 3) (n := 159) (v := ?_) rfl rfl (by kernel_rfl) (by kernel_rfl) (by kernel_rfl) (fun _ _ _ h => h) (Or.inl ⟨by rfl, ?_⟩) (by assumption) ?_
                  rotate_left 1
                  · intro wz hSw
                    obtain ⟨s0, s1, s2⟩ := hSw
                    first | (go_simp; done) | (go_simp; with_reducible rfl)
                  simp only [List.set_cons_zero, List.set_cons_succ]
                  refine take_at (i := 4) (n := 160) (v := ?_) rfl rfl (by kernel_rfl) (by kernel_rfl) (by kernel_rfl) (fun _ _ _ h => h) (Or.inl ⟨by rfl, ?_⟩) (by assumption) ?_
                  rotate_left 1
                  · intro wz hSw
                    obtain ⟨s0, s1, s2⟩ := hSw
                    first | (go_simp; done) | (go_simp; with_reducible rfl)
                  simp only [List.set_cons_zero, List.set_cons_succ]
                  refine take_at (i := 5) (n := 161) (v := ?_) rfl rfl (by kernel_rfl) (by kernel_rfl) (by kernel_rfl) (fun _ _ _ h => h) (Or.inl ⟨by rfl, ?_⟩) (by assumption) ?_
                  rotate_left 1
                  · intro wz hSw
                    obtain ⟨s0, s1, s2⟩ := hSw
                    first | (go_simp; done) | (go_simp; with_reducible rfl)
                  simp only [List.set_cons_zero, List.set_cons_succ]
                  refine take_at (i := 6) (n := 162) (v := ?_) rfl rfl (by kernel_rfl) (by kernel_rfl) (by kernel_rfl) (fun _ _ _ h => h) (Or.inl ⟨by rfl, ?_⟩) (by assumption) ?_
                  rotate_left 1
                  · intro wz hSw
                    obtain ⟨s0, s1, s2⟩ := hSw
                    first | (go_simp; done) | (go_simp; with_reducible rfl)
                  simp only [List.set_cons_zero, List.set_cons_succ]
                  refine take_at (i := 7) (n := 163) (v := ?_) rfl rfl (by kernel_rfl) (by kernel_rfl) (by kernel_rfl) (fun _ _ _ h => h) (Or.inl ⟨by rfl, ?_⟩) (by assumption) ?_
                  rotate_left 1
                  · intro wz hSw
                    obtain ⟨s0, s1, s2⟩ := hSw
                    first | (go_simp; done) | (go_simp; with_reducible rfl)
                  simp only [List.set_cons_zero, List.set_cons_succ]
                  refine take_at (i := 8) (n := 164) (v := ?_) rfl rfl (by kernel_rfl) (by kernel_rfl) (by kernel_rfl) (fun _ _ _ h => h) (Or.inl ⟨by rfl, ?_⟩) (by assumption) ?_
                  rotate_left 1
                  · intro wz hSw
                    obtain ⟨s0, s1, s2⟩ := hSw
                    first | (go_simp; done) | (go_simp; with_reducible rfl)
                  simp only [List.set_cons_zero, List.set_cons_succ]
                  refine take_at (i := 9) (n := 165) (v := ?_) rfl rfl (by kernel_rfl) (by kernel_rfl) (by kernel_rfl) (fun _ _ _ h => h) (Or.inl ⟨by rfl, ?_⟩) (by assumption) ?_
                  rotate_left 1
                  · intro wz hSw
                    obtain ⟨s0, s1, s2⟩ := hSw
                    first | (go_simp; done) | (go_simp; with_reducible rfl)
                  simp only [List.set_cons_zero, List.set_cons_succ]
                  refine take_at (i := 10) (n := 166) (v := ?_) rfl rfl (by kernel_rfl) (by kernel_rfl) (by kernel_rfl) (fun _ _ _ h => h) (Or.inl ⟨by rfl, ?_⟩) (by assumption) ?_
                  rotate_left 1
                  · intro wz hSw
                    obtain ⟨s0, s1, s2⟩ := hSw
                    first | (go_simp; done) | (go_simp; with_reducible rfl)
                  simp only [List.set_cons_zero, List.set_cons_succ]
                  refine take_at (i := 11) (n := 167) (v := ?_) rfl rfl (by kernel_rfl) (by kernel_rfl) (by kernel_rfl) (fun _ _ _ h => h) (Or.inl ⟨by rfl, ?_⟩) (by assumption) ?_
                  rotate_left 1
                  · intro wz hSw
                    obtain ⟨s0, s1, s2⟩ := hSw
                    first | (go_simp; done) | (go_simp; with_reducible rfl)
                  simp only [List.set_cons_zero, List.set_cons_succ]
                  refine take_at (i := 12) (n := 168) (v := ?_) rfl rfl (by kernel_rfl) (by kernel_rfl) (by kernel_rfl) (fun _ _ _ h => h) (Or.inl ⟨by rfl, ?_⟩) (by assumption) ?_
                  rotate_left 1
                  · intro wz hSw
                    obtain ⟨s0, s1, s2⟩ := hSw
                    first | (go_simp; done) | (go_simp; with_reducible rfl)
                  simp only [List.set_cons_zero, List.set_cons_succ]
                  refine take_at (i := 13) (n := 169) (v := ?_) rfl rfl (by kernel_rfl) (by kernel_rfl) (by kernel_rfl) (fun _ _ _ h => h) (Or.inl ⟨by rfl, ?_⟩) (by assumption) ?_
                  rotate_left 1
                  · intro wz hSw
                    obtain ⟨s0, s1, s2⟩ := hSw
                    first | (go_simp; done) | (go_simp; with_reducible rfl)
                  simp only [List.set_cons_zero, List.set_cons_succ]
                  refine take_at (i := 14) (n := 170) (v := ?_) rfl rfl (by kernel_rfl) (by kernel_rfl) (by kernel_rfl) (fun _ _ _ h => h) (Or.inl ⟨by rfl, ?_⟩) (by assumption) ?_
                  rotate_left 1
                  · intro wz hSw
                    obtain ⟨s0, s1, s2⟩ := hSw
                    first | (go_simp; done) | (go_simp; with_reducible rfl)
                  simp only [List.set_cons_zero, List.set_cons_succ]
                  refine wpAnyH_done (by kernel_rfl) ?_ _
                  refine NoPanic.normal ?_
                  clear hHeld
                  obtain ⟨-, x1, xl, -, -, -⟩ := HLx.out.atP
                  obtain ⟨ev9, hev9⟩ : ∃ ev9, L q.s.ends z = ev9 := ⟨_, rfl⟩
                  obtain ⟨x2, xf2⟩ := HLx.out.atE (i := z) (v := ev9) (by rw [HO.out.ok.ends]; exact hz) hev9
                  clear hev9
                  go_wp2_with fail
                  exact ⟨⟨t + 1, q.after sp (decide ((t : Int) ∈ fs)) t (z : Int), sf.set z (sv + sp), (fr.set z (fv + 1)).set z 0, na, nc, by omega, by simp, HL.out, ⟨q, (z : Int), HP.out.1, HBS.out, rfl⟩, HDR.out⟩, by simp [intOf]; omega⟩
                · have hcb : (fv + 1 == sp) = false := by simp [hcp]
                  have HL : Hid (DP w (w9.drew.setCell ⟨eb, z, none⟩ (.int .i64 ((t : Int) + 1))) B l.length pb sb fb eb (.slice na (q.after sp (decide ((t : Int) ∈ fs)) t (z : Int)).s.runs.length nc) (sf) (fr.set z (fv + 1)) (q.after sp (decide ((t : Int) ∈ fs)) t (z : Int)).s.ends (q.after sp (decide ((t : Int) ∈ fs)) t (z : Int)).s.runs) := by
                    have e0 := HLx.out
                    have e1 := e0.setE z ((t : Int) + 1)
                    rw [hdec, afterR_work]
                    dsimp only
                    rw [if_pos hdn]
                    show DP _ _ _ _ _ _ _ _ _ _ _ _ _
                    simpa using e1
                  have HDR : Hid (DR l (q.after sp (decide ((t : Int) ∈ fs)) t (z : Int)) (sf) (fr.set z (fv + 1))) := by
                    have e := HWK.out.2
                    rw [if_neg hcp, if_neg hcp, ← hdec] at e
                    exact e
                  clear HWK HL7
                  go_wp2_with fail
                  refine wp_region_noPanic ?_
                  refine wp_region_held_drew (S := fun w' => w'.cell? ⟨sb, z, none⟩ = some (.int .i64 sv) ∧ w'.cell? ⟨fb, z, none⟩ = some (.int .i64 (fv + 1)) ∧ w'.cell? ⟨jb, jo + z * 5 + 2, none⟩ = some (.int .i64 cz)) (by kernel_rfl) ⟨u0, u1, u2⟩ (fun hHeld => ?_)
                  refine take_at (i := 0) (n := 156) (v := ?_) rfl rfl (by kernel_rfl) (by kernel_rfl) (by kernel_rfl) (fun _ _ _ h => h) (Or.inl ⟨by rfl, ?_⟩) (by assumption) ?_
                  rotate_left 1
                  · intro wz hSw
                    obtain ⟨s0, s1, s2⟩ := hSw
                    first | (go_simp; done) | (go_simp; with_reducible rfl)
                  simp only [List.set_cons_zero, List.set_cons_succ]
                  refine take_at (i := 1) (n := 157) (v := ?_) rfl rfl (by kernel_rfl) (by kernel_rfl) (by kernel_rfl) (fun _ _ _ h => h) (Or.inl ⟨by rfl, ?_⟩) (by assumption) ?_
                  rotate_left 1
                  · intro wz hSw
                    obtain ⟨s0, s1, s2⟩ := hSw
                    first | (go_simp; done) | (go_simp; with_reducible rfl)
                  simp only [List.set_cons_zero, List.set_cons_succ]
                  refine take_at (i := 2) (n := 158) (v := ?_) rfl rfl (by kernel_rfl) (by kernel_rfl) (by kernel_rfl) (fun _ _ _ h => h) (Or.inl ⟨by rfl, ?_⟩) (by assumption) ?_
                  rotate_left 1
                  · intro wz hSw
                    obtain ⟨s0, s1, s2⟩ := hSw
                    first | (go_simp; done) | (go_simp; with_reducible rfl)
                  simp only [List.set_cons_zero, List.set_cons_succ]
                  refine take_at (i := 3) (n := 159) (v := ?_) rfl rfl (by kernel_rfl) (by kernel_rfl) (by kernel_rfl) (fun _ _ _ h => h) (Or.inl ⟨by rfl, ?_⟩) (by assumption) ?_
                  rotate_left 1
                  · intro wz hSw
                    obtain ⟨s0, s1, s2⟩ := hSw
                    first | (go_simp; done) | (go_simp; with_reducible rfl)
                  simp only [List.set_cons_zero, List.set_cons_succ]
                  refine take_at (i := 4) (n := 160) (v := ?_) rfl rfl (by kernel_rfl) (by kernel_rfl) (by kernel_rfl) (fun _ _ _ h => h) (Or.inl ⟨by rfl, ?_⟩) (by assumption) ?_
                  rotate_left 1
                  · intro wz hSw
                    obtain ⟨s0, s1, s2⟩ := hSw
                    first | (go_simp; done) | (go_simp; with_reducible rfl)
                  simp only [List.set_cons_zero, List.set_cons_succ]
                  refine take_at (i := 5) (n := 161) (v := ?_) rfl rfl (by kernel_rfl) (by kernel_rfl) (by kernel_rfl) (fun _ _ _ h => h) (Or.inl ⟨by rfl, ?_⟩) (by assumption) ?_
                  rotate_left 1
                  · intro wz hSw
                    obtain ⟨s0, s1, s2⟩ := hSw
                    first | (go_simp; done) | (go_simp; with_reducible rfl)
                  simp only [List.set_cons_zero, List.set_cons_succ]
                  refine take_at (i := 6) (n := 162) (v := ?_) rfl rfl (by kernel_rfl) (by kernel_rfl) (by kernel_rfl) (fun _ _ _ h => h) (Or.inl ⟨by rfl, ?_⟩) (by assumption) ?_
                  rotate_left 1
                  · intro wz hSw
                    obtain ⟨s0, s1, s2⟩ := hSw
                    first | (go_simp; done) | (go_simp; with_reducible rfl)
                  simp only [List.set_cons_zero, List.set_cons_succ]
                  refine take_at (i := 7) (n := 163) (v := ?_) rfl rfl (by kernel_rfl) (by kernel_rfl) (by kernel_rfl) (fun _ _ _ h => h) (Or.inl ⟨by rfl, ?_⟩) (by assumption) ?_
                  rotate_left 1
                  · intro wz hSw
                    obtain ⟨s0, s1, s2⟩ := hSw
                    first | (go_simp; done) | (go_simp; with_reducible rfl)
                  simp only [List.set_cons_zero, List.set_cons_succ]
                  refine take_at (i := 8) (n := 164) (v := ?_) rfl rfl (by kernel_rfl) (by kernel_rfl) (by kernel_rfl) (fun _ _ _ h => h) (Or.inl ⟨by rfl, ?_⟩) (by assumption) ?_
                  rotate_left 1
                  · intro wz hSw
                    obtain ⟨s0, s1, s2⟩ := hSw
                    first | (go_simp; done) | (go_simp; with_reducible rfl)
                  simp only [List.set_cons_zero, List.set_cons_succ]
                  refine take_at (i := 9) (n := 165) (v := ?_) rfl rfl (by kernel_rfl) (by kernel_rfl) (by kernel_rfl) (fun _ _ _ h => h) (Or.inl ⟨by rfl, ?_⟩) (by assumption) ?_
                  rotate_left 1
                  · intro wz hSw
                    obtain ⟨s0, s1, s2⟩ := hSw
                    first | (go_simp; done) | (go_simp; with_reducible rfl)
                  simp only [List.set_cons_zero, List.set_cons_succ]
                  refine take_at (i := 10) (n := 166) (v := ?_) rfl rfl (by kernel_rfl) (by kernel_rfl) (by kernel_rfl) (fun _ _ _ h => h) (Or.inl ⟨by rfl, ?_⟩) (by assumption) ?_
                  rotate_left 1
                  · intro wz hSw
                    obtain ⟨s0, s1, s2⟩ := hSw
                    first | (go_simp; done) | (go_simp; with_reducible rfl)
                  simp only [List.set_cons_zero, List.set_cons_succ]
                  refine take_at (i := 11) (n := 167) (v := ?_) rfl rfl (by kernel_rfl) (by kernel_rfl) (by kernel_rfl) (fun _ _ _ h => h) (Or.inl ⟨by rfl, ?_⟩) (by assumption) ?_
                  rotate_left 1
                  · intro wz hSw
                    obtain ⟨s0, s1, s2⟩ := hSw
                    first | (go_simp; done) | (go_simp; with_reducible rfl)
                  simp only [List.set_cons_zero, List.set_cons_succ]
                  refine take_at (i := 12) (n := 168) (v := ?_) rfl rfl (by kernel_rfl) (by kernel_rfl) (by kernel_rfl) (fun _ _ _ h => h) (Or.inl ⟨by rfl, ?_⟩) (by assumption) ?_
                  rotate_left 1
                  · intro wz hSw
                    obtain ⟨s0, s1, s2⟩ := hSw
                    first | (go_simp; done) | (go_simp; with_reducible rfl)
                  simp only [List.set_cons_zero, List.set_cons_succ]
                  refine take_at (i := 13) (n := 169) (v := ?_) rfl rfl (by kernel_rfl) (by kernel_rfl) (by kernel_rfl) (fun _ _ _ h => h) (Or.inl ⟨by rfl, ?_⟩) (by assumption) ?_
                  rotate_left 1
                  · intro wz hSw
                    obtain ⟨s0, s1, s2⟩ := hSw
                    first | (go_simp; done) | (go_simp; with_reducible rfl)
                  simp only [List.set_cons_zero, List.set_cons_succ]
                  refine take_at (i := 14) (n := 170) (v := ?_) rfl rfl (by kernel_rfl) (by kernel_rfl) (by kernel_rfl) (fun _ _ _ h => h) (Or.inl ⟨by rfl, ?_⟩) (by assumption) ?_
                  rotate_left 1
                  · intro wz hSw
                    obtain ⟨s0, s1, s2⟩ := hSw
                    first | (go_simp; done) | (go_simp; with_reducible rfl)
                  simp only [List.set_cons_zero, List.set_cons_succ]
                  refine wpAnyH_done (by kernel_rfl) ?_ _
                  refine NoPanic.normal ?_
                  clear hHeld
                  obtain ⟨-, x1, xl, -, -, -⟩ := HLx.out.atP
                  obtain ⟨ev9, hev9⟩ : ∃ ev9, L q.s.ends z = ev9 := ⟨_, rfl⟩
                  obtain ⟨x2, xf2⟩ := HLx.out.atE (i := z) (v := ev9) (by rw [HO.out.ok.ends]; exact hz) hev9
                  clear hev9
                  go_wp2_with fail
                  exact ⟨⟨t + 1, q.after sp (decide ((t : Int) ∈ fs)) t (z : Int), sf, fr.set z (fv + 1), na, nc, by omega, by simp, HL.out, ⟨q, (z : Int), HP.out.1, HBS.out, rfl⟩, HDR.out⟩, by simp [intOf]; omega⟩
              · have hsum : ¬ sv + (fv + 1) = cz := fun e => hdn (HWK.out.1.1 (by rw [HCZ.out]; exact e))
                have hsb : (sv + (fv + 1) == cz) = false := by simp [hsum]
                by_cases hcp : fv + 1 = sp
                · have hcb : (fv + 1 == sp) = true := by simp [hcp]
                  have HL : Hid (DP w ((w9.drew.setCell ⟨sb, z, none⟩ (.int .i64 (sv + sp))).setCell ⟨fb, z, none⟩ (.int .i64 0)) B l.length pb sb fb eb (.slice na (q.after sp (decide ((t : Int) ∈ fs)) t (z : Int)).s.runs.length nc) (sf.set z (sv + sp)) ((fr.set z (fv + 1)).set z 0) (q.after sp (decide ((t : Int) ∈ fs)) t (z : Int)).s.ends (q.after sp (decide ((t : Int) ∈ fs)) t (z : Int)).s.runs) := by
                    have e0 := HLx.out
                    have e2 := (e0.setS z (sv + sp)).setF z 0
                    rw [hdec, afterR_work]
                    dsimp only
                    rw [if_neg hdn]
                    show DP _ _ _ _ _ _ _ _ _ _ _ _ _
                    simpa using e2
                  have HDR : Hid (DR l (q.after sp (decide ((t : Int) ∈ fs)) t (z : Int)) (sf.set z (sv + sp)) ((fr.set z (fv + 1)).set z 0)) := by
                    have e := HWK.out.2
                    rw [if_pos hcp, if_pos hcp, ← hdec] at e
                    exact e
                  clear HWK HL7
                  go_wp2_with fail
                  refine wp_region_noPanic ?_
                  refine wp_region_held_drew (S := fun w' => w'.cell? ⟨sb, z, none⟩ = some (.int .i64 sv) ∧ w'.cell? ⟨fb, z, none⟩ = some (.int .i64 (fv + 1)) ∧ w'.cell? ⟨jb, jo + z * 5 + 2, none⟩ = some (.int .i64 cz)) (by kernel_rfl) ⟨u0, u1, u2⟩ (fun hHeld => ?_)
                  refine take_at (i := 0) (n := 156) (v := ?_) rfl rfl (by kernel_rfl) (by kernel_rfl) (by kernel_rfl) (fun _ _ _ h => h) (Or.inl ⟨by rfl, ?_⟩) (by assumption) ?_
                  rotate_left 1
                  · intro wz hSw
                    obtain ⟨s0, s1, s2⟩ := hSw
                    first | (go_simp; done) | (go_simp; with_reducible rfl)
                  simp only [List.set_cons_zero, List.set_cons_succ]
                  refine take_at (i := 1) (n := 157) (v := ?_) rfl rfl (by kernel_rfl) (by kernel_rfl) (by kernel_rfl) (fun _ _ _ h => h) (Or.inl ⟨by rfl, ?_⟩) (by assumption) ?_
                  rotate_left 1
                  · intro wz hSw
                    obtain ⟨s0, s1, s2⟩ := hSw
                    first | (go_simp; done) | (go_simp; with_reducible rfl)
                  simp only [List.set_cons_zero, List.set_cons_succ]
                  refine take_at (i := 2) (n := 158) (v := ?_) rfl rfl (by kernel_rfl) (by kernel_rfl) (by kernel_rfl) (fun _ _ _ h => h) (Or.inl ⟨by rfl, ?_⟩) (by assumption) ?_
                  rotate_left 1
                  · intro wz hSw
                    obtain ⟨s0, s1, s2⟩ := hSw
                    first | (go_simp; done) | (go_simp; with_reducible rfl)
                  simp only [List.set_cons_zero, List.set_cons_succ]
                  refine take_at (i := 3) (n := 159) (v := ?_) rfl rfl (by kernel_rfl) (by kernel_rfl) (by kernel_rfl) (fun _ _ _ h => h) (Or.inl ⟨by rfl, ?_⟩) (by assumption) ?_
                  rotate_left 1
                  · intro wz hSw
                    obtain ⟨s0, s1, s2⟩ := hSw
                    first | (go_simp; done) | (go_simp; with_reducible rfl)
                  simp only [List.set_cons_zero, List.set_cons_succ]
                  refine take_at (i := 4) (n := 160) (v := ?_) rfl rfl (by kernel_rfl) (by kernel_rfl) (by kernel_rfl) (fun _ _ _ h => h) (Or.inl ⟨by rfl, ?_⟩) (by assumption) ?_
                  rotate_left 1
                  · intro wz hSw
                    obtain ⟨s0, s1, s2⟩ := hSw
                    first | (go_simp; done) | (go_simp; with_reducible rfl)
                  simp only [List.set_cons_zero, List.set_cons_succ]
                  refine take_at (i := 5) (n := 161) (v := ?_) rfl rfl (by kernel_rfl) (by kernel_rfl) (by kernel_rfl) (fun _ _ _ h => h) (Or.inl ⟨by rfl, ?_⟩) (by assumption) ?_
                  rotate_left 1
                  · intro wz hSw
                    obtain ⟨s0, s1, s2⟩ := hSw
                    first | (go_simp; done) | (go_simp; with_reducible rfl)
                  simp only [List.set_cons_zero, List.set_cons_succ]
                  refine take_at (i := 6) (n := 162) (v := ?_) rfl rfl (by kernel_rfl) (by kernel_rfl) (by kernel_rfl) (fun _ _ _ h => h) (Or.inl ⟨by rfl, ?_⟩) (by assumption) ?_
                  rotate_left 1
                  · intro wz hSw
                    obtain ⟨s0, s1, s2⟩ := hSw
                    first | (go_simp; done) | (go_simp; with_reducible rfl)
                  simp only [List.set_cons_zero, List.set_cons_succ]
                  refine take_at (i := 7) (n := 163) (v := ?_) rfl rfl (by kernel_rfl) (by kernel_rfl) (by kernel_rfl) (fun _ _ _ h => h) (Or.inl ⟨by rfl, ?_⟩) (by assumption) ?_
                  rotate_left 1
                  · intro wz hSw
                    obtain ⟨s0, s1, s2⟩ := hSw
                    first | (go_simp; done) | (go_simp; with_reducible rfl)
                  simp only [List.set_cons_zero, List.set_cons_succ]
                  refine take_at (i := 8) (n := 164) (v := ?_) rfl rfl (by kernel_rfl) (by kernel_rfl) (by kernel_rfl) (fun _ _ _ h => h) (Or.inl ⟨by rfl, ?_⟩) (by assumption) ?_
                  rotate_left 1
                  · intro wz hSw
                    obtain ⟨s0, s1, s2⟩ := hSw
                    first | (go_simp; done) | (go_simp; with_reducible rfl)
                  simp only [List.set_cons_zero, List.set_cons_succ]
                  refine take_at (i := 9) (n := 165) (v := ?_) rfl rfl (by kernel_rfl) (by kernel_rfl) (by kernel_rfl) (fun _ _ _ h => h) (Or.inl ⟨by rfl, ?_⟩) (by assumption) ?_
                  rotate_left 1
                  · intro wz hSw
                    obtain ⟨s0, s1, s2⟩ := hSw
                    first | (go_simp; done) | (go_simp; with_reducible rfl)
                  simp only [List.set_cons_zero, List.set_cons_succ]
                  refine take_at (i := 10) (n := 166) (v := ?_) rfl rfl (by kernel_rfl) (by kernel_rfl) (by kernel_rfl) (fun _ _ _ h => h) (Or.inl ⟨by rfl, ?_⟩) (by assumption) ?_
                  rotate_left 1
                  · intro wz hSw
                    obtain ⟨s0, s1, s2⟩ := hSw
                    first | (go_simp; done) | (go_simp; with_reducible rfl)
                  simp only [List.set_cons_zero, List.set_cons_succ]
                  refine take_at (i := 11) (n := 167) (v := ?_) rfl rfl (by kernel_rfl) (by kernel_rfl) (by kernel_rfl) (fun _ _ _ h => h) (Or.inl ⟨by rfl, ?_⟩) (by assumption) ?_
                  rotate_left 1
                  · intro wz hSw
                    obtain ⟨s0, s1, s2⟩ := hSw
                    first | (go_simp; done) | (go_simp; with_reducible rfl)
                  simp only [List.set_cons_zero, List.set_cons_succ]
                  refine take_at (i := 12) (n := 168) (v := ?_) rfl rfl (by kernel_rfl) (by kernel_rfl) (by kernel_rfl) (fun _ _ _ h => h) (Or.inl ⟨by rfl, ?_⟩) (by assumption) ?_
                  rotate_left 1
                  · intro wz hSw
                    obtain ⟨s0, s1, s2⟩ := hSw
                    first | (go_simp; done) | (go_simp; with_reducible rfl)
                  simp only [List.set_cons_zero, List.set_cons_succ]
                  refine take_at (i := 13) (n := 169) (v := ?_) rfl rfl (by kernel_rfl) (by kernel_rfl) (by kernel_rfl) (fun _ _ _ h => h) (Or.inl ⟨by rfl, ?_⟩) (by assumption) ?_
                  rotate_left 1
                  · intro wz hSw
                    obtain ⟨s0, s1, s2⟩ := hSw
                    first | (go_simp; done) | (go_simp; with_reducible rfl)
                  simp only [List.set_cons_zero, List.set_cons_succ]
                  refine take_at (i := 14) (n := 170) (v := ?_) rfl rfl (by kernel_rfl) (by kernel_rfl) (by kernel_rfl) (fun _ _ _ h => h) (Or.inl ⟨by rfl, ?_⟩) (by assumption) ?_
                  rotate_left 1
                  · intro wz hSw
                    obtain ⟨s0, s1, s2⟩ := hSw
                    first | (go_simp; done) | (go_simp; with_reducible rfl)
                  simp only [List.set_cons_zero, List.set_cons_succ]
                  refine wpAnyH_done (by kernel_rfl) ?_ _
                  refine NoPanic.normal ?_
                  clear hHeld
                  go_wp2_with fail
                  exact ⟨⟨t + 1, q.after sp (decide ((t : Int) ∈ fs)) t (z : Int), sf.set z (sv + sp), (fr.set z (fv + 1)).set z 0, na, nc, by omega, by simp, HL.out, ⟨q, (z : Int), HP.out.1, HBS.out, rfl⟩, HDR.out⟩, by simp [intOf]; omega⟩
                · have hcb : (fv + 1 == sp) = false := by simp [hcp]
                  have HL : Hid (DP w w9.drew B l.length pb sb fb eb (.slice na (q.after sp (decide ((t : Int) ∈ fs)) t (z : Int)).s.runs.length nc) (sf) (fr.set z (fv + 1)) (q.after sp (decide ((t : Int) ∈ fs)) t (z : Int)).s.ends (q.after sp (decide ((t : Int) ∈ fs)) t (z : Int)).s.runs) := by
                    have e0 := HLx.out
                    rw [hdec, afterR_work]
                    dsimp only
                    rw [if_neg hdn]
                    show DP _ _ _ _ _ _ _ _ _ _ _ _ _
                    simpa using e0
                  have HDR : Hid (DR l (q.after sp (decide ((t : Int) ∈ fs)) t (z : Int)) (sf) (fr.set z (fv + 1))) := by
                    have e := HWK.out.2
                    rw [if_neg hcp, if_neg hcp, ← hdec] at e
                    exact e
                  clear HWK HL7
                  go_wp2_with fail
                  refine wp_region_noPanic ?_
                  refine wp_region_held_drew (S := fun w' => w'.cell? ⟨sb, z, none⟩ = some (.int .i64 sv) ∧ w'.cell? ⟨fb, z, none⟩ = some (.int .i64 (fv + 1)) ∧ w'.cell? ⟨jb, jo + z * 5 + 2, none⟩ = some (.int .i64 cz)) (by kernel_rfl) ⟨u0, u1, u2⟩ (fun hHeld => ?_)
                  refine take_at (i := 0) (n := 156) (v := ?_) rfl rfl (by kernel_rfl) (by kernel_rfl) (by kernel_rfl) (fun _ _ _ h => h) (Or.inl ⟨by rfl, ?_⟩) (by assumption) ?_
                  rotate_left 1
                  · intro wz hSw
                    obtain ⟨s0, s1, s2⟩ := hSw
                    first | (go_simp; done) | (go_simp; with_reducible rfl)
                  simp only [List.set_cons_zero, List.set_cons_succ]
                  refine take_at (i := 1) (n := 157) (v := ?_) rfl rfl (by kernel_rfl) (by kernel_rfl) (by kernel_rfl) (fun _ _ _ h => h) (Or.inl ⟨by rfl, ?_⟩) (by assumption) ?_
                  rotate_left 1
                  · intro wz hSw
                    obtain ⟨s0, s1, s2⟩ := hSw
                    first | (go_simp; done) | (go_simp; with_reducible rfl)
                  simp only [List.set_cons_zero, List.set_cons_succ]
                  refine take_at (i := 2) (n := 158) (v := ?_) rfl rfl (by kernel_rfl) (by kernel_rfl) (by kernel_rfl) (fun _ _ _ h => h) (Or.inl ⟨by rfl, ?_⟩) (by assumption) ?_
                  rotate_left 1
                  · intro wz hSw
                    obtain ⟨s0, s1, s2⟩ := hSw
                    first | (go_simp; done) | (go_simp; with_reducible rfl)
                  simp only [List.set_cons_zero, List.set_cons_succ]
                  refine take_at (i := 3) (n := 159) (v := ?_) rfl rfl (by kernel_rfl) (by kernel_rfl) (by kernel_rfl) (fun _ _ _ h => h) (Or.inl ⟨by rfl, ?_⟩) (by assumption) ?_
                  rotate_left 1
                  · intro wz hSw
                    obtain ⟨s0, s1, s2⟩ := hSw
                    first | (go_simp; done) | (go_simp; with_reducible rfl)
                  simp only [List.set_cons_zero, List.set_cons_succ]
                  refine take_at (i := 4) (n := 160) (v := ?_) rfl rfl (by kernel_rfl) (by kernel_rfl) (by kernel_rfl) (fun _ _ _ h => h) (Or.inl ⟨by rfl, ?_⟩) (by assumption) ?_
                  rotate_left 1
                  · intro wz hSw
                    obtain ⟨s0, s1, s2⟩ := hSw
                    first | (go_simp; done) | (go_simp; with_reducible rfl)
                  simp only [List.set_cons_zero, List.set_cons_succ]
                  refine take_at (i := 5) (n := 161) (v := ?_) rfl rfl (by kernel_rfl) (by kernel_rfl) (by kernel_rfl) (fun _ _ _ h => h) (Or.inl ⟨by rfl, ?_⟩) (by assumption) ?_
                  rotate_left 1
                  · intro wz hSw
                    obtain ⟨s0, s1, s2⟩ := hSw
                    first | (go_simp; done) | (go_simp; with_reducible rfl)
                  simp only [List.set_cons_zero, List.set_cons_succ]
                  refine take_at (i := 6) (n := 162) (v := ?_) rfl rfl (by kernel_rfl) (by kernel_rfl) (by kernel_rfl) (fun _ _ _ h => h) (Or.inl ⟨by rfl, ?_⟩) (by assumption) ?_
                  rotate_left 1
                  · intro wz hSw
                    obtain ⟨s0, s1, s2⟩ := hSw
                    first | (go_simp; done) | (go_simp; with_reducible rfl)
                  simp only [List.set_cons_zero, List.set_cons_succ]
                  refine take_at (i := 7) (n := 163) (v := ?_) rfl rfl (by kernel_rfl) (by kernel_rfl) (by kernel_rfl) (fun _ _ _ h => h) (Or.inl ⟨by rfl, ?_⟩) (by assumption) ?_
                  rotate_left 1
                  · intro wz hSw
                    obtain ⟨s0, s1, s2⟩ := hSw
                    first | (go_simp; done) | (go_simp; with_reducible rfl)
                  simp only [List.set_cons_zero, List.set_cons_succ]
                  refine take_at (i := 8) (n := 164) (v := ?_) rfl rfl (by kernel_rfl) (by kernel_rfl) (by kernel_rfl) (fun _ _ _ h => h) (Or.inl ⟨by rfl, ?_⟩) (by assumption) ?_
                  rotate_left 1
                  · intro wz hSw
                    obtain ⟨s0, s1, s2⟩ := hSw
                    first | (go_simp; done) | (go_simp; with_reducible rfl)
                  simp only [List.set_cons_zero, List.set_cons_succ]
                  refine take_at (i := 9) (n := 165) (v := ?_) rfl rfl (by kernel_rfl) (by kernel_rfl) (by kernel_rfl) (fun _ _ _ h => h) (Or.inl ⟨by rfl, ?_⟩) (by assumption) ?_
                  rotate_left 1
                  · intro wz hSw
                    obtain ⟨s0, s1, s2⟩ := hSw
                    first | (go_simp; done) | (go_simp; with_reducible rfl)
                  simp only [List.set_cons_zero, List.set_cons_succ]
                  refine take_at (i := 10) (n := 166) (v := ?_) rfl rfl (by kernel_rfl) (by kernel_rfl) (by kernel_rfl) (fun _ _ _ h => h) (Or.inl ⟨by rfl, ?_⟩) (by assumption) ?_
                  rotate_left 1
                  · intro wz hSw
                    obtain ⟨s0, s1, s2⟩ := hSw
                    first | (go_simp; done) | (go_simp; with_reducible rfl)
                  simp only [List.set_cons_zero, List.set_cons_succ]
                  refine take_at (i := 11) (n := 167) (v := ?_) rfl rfl (by kernel_rfl) (by kernel_rfl) (by kernel_rfl) (fun _ _ _ h => h) (Or.inl ⟨by rfl, ?_⟩) (by assumption) ?_
                  rotate_left 1
                  · intro wz hSw
                    obtain ⟨s0, s1, s2⟩ := hSw
                    first | (go_simp; done) | (go_simp; with_reducible rfl)
                  simp only [List.set_cons_zero, List.set_cons_succ]
                  refine take_at (i := 12) (n := 168) (v := ?_) rfl rfl (by kernel_rfl) (by kernel_rfl) (by kernel_rfl) (fun _ _ _ h => h) (Or.inl ⟨by rfl, ?_⟩) (by assumption) ?_
                  rotate_left 1
                  · intro wz hSw
                    obtain ⟨s0, s1, s2⟩ := hSw
                    first | (go_simp; done) | (go_simp; with_reducible rfl)
                  simp only [List.set_cons_zero, List.set_cons_succ]
                  refine take_at (i := 13) (n := 169) (v := ?_) rfl rfl (by kernel_rfl) (by kernel_rfl) (by kernel_rfl) (fun _ _ _ h => h) (Or.inl ⟨by rfl, ?_⟩) (by assumption) ?_
                  rotate_left 1
                  · intro wz hSw
                    obtain ⟨s0, s1, s2⟩ := hSw
                    first | (go_simp; done) | (go_simp; with_reducible rfl)
                  simp only [List.set_cons_zero, List.set_cons_succ]
                  refine take_at (i := 14) (n := 170) (v := ?_) rfl rfl (by kernel_rfl) (by kernel_rfl) (by kernel_rfl) (fun _ _ _ h => h) (Or.inl ⟨by rfl, ?_⟩) (by assumption) ?_
                  rotate_left 1
                  · intro wz hSw
                    obtain ⟨s0, s1, s2⟩ := hSw
                    first | (go_simp; done) | (go_simp; with_reducible rfl)
                  simp only [List.set_cons_zero, List.set_cons_succ]
                  refine wpAnyH_done (by kernel_rfl) ?_ _
                  refine NoPanic.normal ?_
                  clear hHeld
                  go_wp2_with fail
                  exact ⟨⟨t + 1, q.after sp (decide ((t : Int) ∈ fs)) t (z : Int), sf, fr.set z (fv + 1), na, nc, by omega, by simp, HL.out, ⟨q, (z : Int), HP.out.1, HBS.out, rfl⟩, HDR.out⟩, by simp [intOf]; omega⟩
          · have hte : t = n := by omega
            subst hte
            obtain ⟨p0, p1, lp, -⟩ := hdp.atP
            have HX : Hid (TD w wr) := ⟨hdp.bel, hdp.r1, hdp.r2⟩
            have HF : Hid (DP w wr B l.length pb sb fb eb (.slice ra q.s.runs.length rc) sf fr q.s.ends q.s.runs) := hdp
            obtain ⟨qs, qf, ql⟩ := cells_of (l := [_, _]) HX.out.r1
            have q0 := qs 0 _ rfl
            have q1 := qs 1 _ rfl
            have qf0 := qf 0
            have qf1 := qf 1
            obtain ⟨rs, rf, rl⟩ := cells_of (l := [_, _]) HX.out.r2
            have r0 := rs 0 _ rfl
            have r1 := rs 1 _ rfl
            have rf0 := rf 0
            have rf1 := rf 1
            have ne0 : ¬ pb = w.heap.size := by have := hdp.lo; omega
            have ne1 : ¬ pb = w.heap.size + 1 := by have := hdp.lo; omega
            clear qs qf rs rf hdp
            go_wp2_with fail
            have hx := HX.out.put (.slice ra q.s.runs.length rc) (.slice (some ⟨eb, 0, none⟩) l.length l.length) (.int .i64 0) (.int .i64 0)
            refine bodyPost_ret (PA_ends (g1 := w.heap.size) (g2 := w.heap.size + 1) (a := (.slice ra q.s.runs.length rc)) (b := .slice (some ⟨eb, 0, none⟩) l.length l.length) (c := .int .i64 0) (k := .int .i64 0) hx.1 hx.2.1 rfl rfl) rfl ?_
            have lo := HF.out.lo
            have hi := HF.out.hi
            refine ⟨q, _, _, rfl, HP.out.1, (HF.out.own.same (fun g e => hx.2.2.2 g (by have := (HF.out.own.lt g e).1; omega))).rowSl, row_blk ((hx.2.2.2 eb (by omega)).trans HF.out.ev) (HO.out.ok.ends.symm), hx.2.2.1⟩
end Go.Proofs.YtekbkcgpjkecbalDoor.S8
