import Derived.Test.YtccoobcggbbciaiGreatDoorVB
namespace Go.Proofs.YtccoobcggbbciaiGreatDoor
open Go.ChangeShapes Go.WideShapes Go.ChangeAt Go.RowKit

def frmV (n : Int) (v : Value) : Value := .agg #[.int .i64 n, v]

theorem take_succ_at {α : Type} {l : List α} {j : Nat} {x : α} (h : l[j]? = some x) : l.take (j + 1) = l.take j ++ [x] := by
  rw [List.take_add_one, h]
  rfl

theorem aheadF_take {n t : Int} {l : List Wi} {j : Nat} {x : Wi} (h : l[j]? = some x) : aheadF n (l.take (j + 1)) t = aheadF n (l.take j) t + aheadW n t x := by
  unfold aheadF
  rw [take_succ_at h]
  simp

theorem aheadW_le {n t : Int} {x : Wi} (hn : 1 ≤ n) (h0 : 0 ≤ t) (ht : t ≤ 100000) (h1 : 1 ≤ x.ln) (h2 : x.ln ≤ 10000) : (0 ≤ t / n ∧ t / n ≤ 100000) ∧ (0 ≤ (t / n) * x.ln ∧ (t / n) * x.ln ≤ 1000000000) ∧ 0 ≤ aheadW n t x ∧ aheadW n t x ≤ 1000010000 := by
  have q0 : 0 ≤ t / n := Int.ediv_nonneg h0 (by omega)
  have q1 : t / n ≤ 100000 := Int.le_trans (Int.ediv_le_self n h0) ht
  have m0 : 0 ≤ (t / n) * x.ln := Int.mul_nonneg q0 (by omega)
  have m1 : (t / n) * x.ln ≤ 100000 * 10000 := Int.mul_le_mul q1 h2 (by omega) (by omega)
  refine ⟨⟨q0, q1⟩, ⟨m0, by omega⟩, ?_⟩
  unfold aheadW
  omega

theorem aheadF_le {n t : Int} (hn : 1 ≤ n) (hn2 : n ≤ 10000) (h0 : 0 ≤ t) (ht : t ≤ 100000) : ∀ {l : List Wi} {e : Int}, 0 ≤ e → Srt n e l → 0 ≤ aheadF n l t ∧ aheadF n l t ≤ 1000010000 * l.length
  | [], _, _, _ => by simp [aheadF]
  | x :: r, e, he, h => by
    have ih := aheadF_le hn hn2 h0 ht (l := r) (by have := h.1; have := h.2.1; omega) h.2.2.2
    have hx := aheadW_le (x := x) hn h0 ht h.2.1 (by have := h.1; have := h.2.2.1; omega)
    unfold aheadF at *
    rw [List.map_cons, List.sum_cons, List.length_cons]
    omega

theorem Srt.take {n : Int} : ∀ {l : List Wi} {e : Int} (j : Nat), Srt n e l → Srt n e (l.take j)
  | [], _, j, _ => by simp [Srt]
  | x :: r, e, 0, _ => by simp [Srt]
  | x :: r, e, j + 1, h => ⟨h.1, h.2.1, h.2.2.1, Srt.take j h.2.2.2⟩

set_option maxRecDepth 20000 in
set_option maxHeartbeats 4000000 in
theorem ahead_any (w : World) (n t : Int) (l : List Wi) (ad : Option Addr) (c : Nat) (hn : 1 ≤ n ∧ n ≤ 10000) (h20 : l.length ≤ 20) (hs : Srt n 0 l) (ht : 0 ≤ t ∧ t ≤ 100000) (hv : RowSl Wi.vals w l (.slice ad l.length c)) : Calls Tryz.prog 117 #[.agg #[.int .i64 n, .slice ad l.length c], .int .i64 t] w fun r w' => r = .returned (.int .i64 (aheadF n l t)) ∧ Below w.heap.size w w' := by
  obtain ⟨_, _, e, -, hcap, hrow⟩ := hv
  cases e
  have HR : Hid ((l = [] ∨ ∃ b o, ad = some ⟨b, o, none⟩ ∧ ∀ q u, (l.flatMap Wi.vals)[q]? = some u → w.cell? ⟨b, o + q, none⟩ = some u) ∧ Srt n 0 l) := ⟨hrow, hs⟩
  clear hrow hs
  have hn0 : ¬ n = 0 := by omega
  have e1 : t.tdiv n = t / n := Int.tdiv_eq_ediv_of_nonneg (by omega)
  have e2 : t.tmod n = t % n := Int.tmod_eq_emod_of_nonneg (by omega)
  have q0 : 0 ≤ t / n := Int.ediv_nonneg (by omega) (by omega)
  have q1 : t / n ≤ 100000 := Int.le_trans (Int.ediv_le_self n (by omega)) (by omega)
  have q2 := Int.emod_nonneg t hn0
  have q3 := Int.emod_lt_of_pos t (show 0 < n by omega)
  have w1 : IntKind.i64.wrap (t / n) = t / n := by rw [IntKind.wrap_i64]; omega
  have w2 : IntKind.i64.wrap (t % n) = t % n := by rw [IntKind.wrap_i64]; omega
  go_enter Tryz.func117, Tryz.ntmps117
  go_wp2_with fail
  refine wp_region_noPanic ?_
  refine wp_region_held_drew (S := fun w' => w'.cell? ⟨w.heap.size, 0, none⟩ = some (.int .i64 n)) (by kernel_rfl) (by go_simp) (fun hHeld => ?_)
  refine take_at (i := 0) (n := 10) (v := ?_) rfl rfl (by kernel_rfl) (by kernel_rfl) (by kernel_rfl) (fun _ _ _ h => h) (Or.inl ⟨by rfl, ?_⟩) (by assumption) ?_
  rotate_left 1
  · intro wz hSw
    have k0 := hSw
    first | (go_simp; done) | (go_simp; with_reducible rfl)
  simp only [List.set_cons_zero, List.set_cons_succ]
  refine take_at (i := 1) (n := 11) (v := ?_) rfl rfl (by kernel_rfl) (by kernel_rfl) (by kernel_rfl) (fun _ _ _ h => h) (Or.inl ⟨by rfl, ?_⟩) (by assumption) ?_
  rotate_left 1
  · intro wz hSw
    have k0 := hSw
    first | (go_simp; done) | (go_simp; with_reducible rfl)
  simp only [List.set_cons_zero, List.set_cons_succ]
  refine take_at (i := 2) (n := 12) (v := ?_) rfl rfl (by kernel_rfl) (by kernel_rfl) (by kernel_rfl) (fun _ _ _ h => h) (Or.inl ⟨by rfl, ?_⟩) (by assumption) ?_
  rotate_left 1
  · intro wz hSw
    have k0 := hSw
    first | (go_simp; done) | (go_simp; with_reducible rfl)
  simp only [List.set_cons_zero, List.set_cons_succ]
  refine take_at (i := 3) (n := 13) (v := ?_) rfl rfl (by kernel_rfl) (by kernel_rfl) (by kernel_rfl) (fun _ _ _ h => h) (Or.inl ⟨by rfl, ?_⟩) (by assumption) ?_
  rotate_left 1
  · intro wz hSw
    have k0 := hSw
    first | (go_simp; done) | (go_simp; with_reducible rfl)
  simp only [List.set_cons_zero, List.set_cons_succ]
  refine take_at (i := 4) (n := 14) (v := ?_) rfl rfl (by kernel_rfl) (by kernel_rfl) (by kernel_rfl) (fun _ _ _ h => h) (Or.inl ⟨by rfl, ?_⟩) (by assumption) ?_
  rotate_left 1
  · intro wz hSw
    have k0 := hSw
    first | (go_simp; done) | (go_simp; with_reducible rfl)
  simp only [List.set_cons_zero, List.set_cons_succ]
  refine take_at (i := 5) (n := 15) (v := ?_) rfl rfl (by kernel_rfl) (by kernel_rfl) (by kernel_rfl) (fun _ _ _ h => h) (Or.inl ⟨by rfl, ?_⟩) (by assumption) ?_
  rotate_left 1
  · intro wz hSw
    have k0 := hSw
    first | (go_simp; done) | (go_simp; with_reducible rfl)
  simp only [List.set_cons_zero, List.set_cons_succ]
  refine take_at (i := 6) (n := 16) (v := ?_) rfl rfl (by kernel_rfl) (by kernel_rfl) (by kernel_rfl) (fun _ _ _ h => h) (Or.inl ⟨by rfl, ?_⟩) (by assumption) ?_
  rotate_left 1
  · intro wz hSw
    have k0 := hSw
    first | (go_simp; done) | (go_simp; with_reducible rfl)
  simp only [List.set_cons_zero, List.set_cons_succ]
  refine take_at (i := 7) (n := 17) (v := ?_) rfl rfl (by kernel_rfl) (by kernel_rfl) (by kernel_rfl) (fun _ _ _ h => h) (Or.inl ⟨by rfl, ?_⟩) (by assumption) ?_
  rotate_left 1
  · intro wz hSw
    have k0 := hSw
    first | (go_simp; done) | (go_simp; with_reducible rfl)
  simp only [List.set_cons_zero, List.set_cons_succ]
  refine take_at (i := 8) (n := 5) (v := ?_) rfl rfl (by kernel_rfl) (by kernel_rfl) (by kernel_rfl) (fun _ _ _ h => h) (Or.inl ⟨by rfl, ?_⟩) (by assumption) ?_
  rotate_left 1
  · intro wz hSw
    have k0 := hSw
    first | (go_simp; done) | (go_simp; with_reducible rfl)
  simp only [List.set_cons_zero, List.set_cons_succ]
  refine take_at (i := 9) (n := 6) (v := ?_) rfl rfl (by kernel_rfl) (by kernel_rfl) (by kernel_rfl) (fun _ _ _ h => h) (Or.inl ⟨by rfl, ?_⟩) (by assumption) ?_
  rotate_left 1
  · intro wz hSw
    have k0 := hSw
    first | (go_simp; done) | (go_simp; with_reducible rfl)
  simp only [List.set_cons_zero, List.set_cons_succ]
  refine wpAnyH_done (by kernel_rfl) ?_ _
  refine NoPanic.normal ?_
  clear hHeld
  go_wp2_with fail
  go_loopw [7, 21] (fun s i wr => ∃ j : Nat, j ≤ l.length ∧ s = .int .i64 (aheadF n (l.take j) t) ∧ i = .int .i64 j ∧ Below w.heap.size w wr) (fun _ i _ => l.length - (intOf i).toNat)
  case atStart => exact ⟨0, Nat.zero_le _, by simp [aheadF], rfl, (below_new _ _).drew⟩
  case round =>
    obtain ⟨j, hj, rfl, rfl, hb⟩ := hrel
    by_cases hlt : j < l.length
    · obtain ⟨x, hx, -⟩ := drop_at hlt
      rcases HR.out.1 with h' | ⟨b, o, rfl, hrow⟩
      · rw [h'] at hlt; simp at hlt
      obtain ⟨c0, c1⟩ := wi_at (fun q u hq => below_cell hb (hrow q u hq)) hx
      have lb : b < wr.heap.size := World.block_lt_of_cell? _ _ c0
      have HB : Hid (Below w.heap.size w wr) := hb
      have hji : (j : Int) < (l.length : Int) := by omega
      have hm := HR.out.2.mem (List.mem_of_getElem? hx)
      obtain ⟨-, ⟨p0, p1⟩, b0, b1⟩ := aheadW_le (x := x) hn.1 ht.1 ht.2 hm.2.1 (by omega)
      have hle := aheadF_le hn.1 hn.2 ht.1 ht.2 (Int.le_refl 0) (HR.out.2.take j)
      have hlen : ((l.take j).length : Int) ≤ 20 := by simp; omega
      have ht1 := aheadF_take (n := n) (t := t) hx
      generalize hA : aheadF n (l.take j) t = A at *
      have w3 : IntKind.i64.wrap (t / n * x.ln) = t / n * x.ln := by rw [IntKind.wrap_i64]; omega
      have w4 : IntKind.i64.wrap (t % n - x.at_) = t % n - x.at_ := by rw [IntKind.wrap_i64]; omega
      have HT : Hid (aheadF n (l.take (j + 1)) t = A + aheadW n t x) := ht1
      clear hb hrow ht1 hA
      go_wp2_with fail
      refine ⟨⟨j + 1, by omega, ?_, by simp, below_seq HB.out (below_new _ _)⟩, by simp [intOf]; omega⟩
      rw [HT.out]
      congr 1
      unfold aheadW
      (repeat' split) <;> omega
    · have hje : j = l.length := by omega
      subst hje
      rw [List.take_length]
      go_wp2_with fail
      go_ret
      exact ⟨rfl, hb⟩

end Go.Proofs.YtccoobcggbbciaiGreatDoor
namespace Go.Proofs.YtccoobcggbbciaiGreatDoor
open Go.ChangeShapes Go.WideShapes Go.ChangeAt Go.RowKit

theorem keepP {w1 W W' : World} {g : Nat} {v0 v1 : Value} (hb : Below W.heap.size W W') (h : Below w1.heap.size w1 W ∧ W.cell? ⟨g, 0, none⟩ = some v0 ∧ W.cell? ⟨g, 1, none⟩ = some v1) : Below w1.heap.size w1 W' ∧ W'.cell? ⟨g, 0, none⟩ = some v0 ∧ W'.cell? ⟨g, 1, none⟩ = some v1 :=
  ⟨below_seq h.1 hb, below_cell hb h.2.1, below_cell hb h.2.2⟩

set_option maxRecDepth 20000 in
set_option maxHeartbeats 4000000 in
theorem supply_raw (w : World) (n s k : Int) (l : List Wi) (ad : Option Addr) (c : Nat) (hn : 1 ≤ n ∧ n ≤ 10000) (h20 : l.length ≤ 20) (hs : Srt n 0 l) (ht : 0 ≤ s ∧ 0 ≤ k ∧ s + k ≤ 100000) (hv : RowSl Wi.vals w l (.slice ad l.length c)) : Calls Tryz.prog 73 #[.agg #[.int .i64 n, .slice ad l.length c], .int .i64 s, .int .i64 k] w fun r w' => r = .returned (.int .i64 (aheadF n l (s + k) - aheadF n l s)) ∧ Below w.heap.size w w' := by
  have g1 := aheadF_le (t := s + k) hn.1 hn.2 (by omega) (by omega) (Int.le_refl 0) hs
  have g2 := aheadF_le (t := s) hn.1 hn.2 (by omega) (by omega) (Int.le_refl 0) hs
  have HS : Hid (Srt n 0 l ∧ RowSl Wi.vals (w.alloc (.cells #[.int .i64 n, .slice ad l.length c] 87)) l (.slice ad l.length c)) := ⟨hs, hv.below (below_new _ _)⟩
  have w1 : IntKind.i64.wrap (s + k) = s + k := by rw [IntKind.wrap_i64]; omega
  have w2 : IntKind.i64.wrap (aheadF n l (s + k) - aheadF n l s) = aheadF n l (s + k) - aheadF n l s := by rw [IntKind.wrap_i64]; omega
  clear hs hv
  go_enter Tryz.func73, Tryz.ntmps73
  go_wp2_with fail
  go_region_held3 (fun w' => Below (w.alloc (.cells #[.int .i64 n, .slice ad l.length c] 87)).heap.size (w.alloc (.cells #[.int .i64 n, .slice ad l.length c] 87)) w' ∧ w'.cell? ⟨w.heap.size, 0, none⟩ = some (.int .i64 n) ∧ w'.cell? ⟨w.heap.size, 1, none⟩ = some (.slice ad l.length c))
    (first | assumption | exact ⟨(Below.refl _ _).drew, by go_simp, by go_simp⟩)
    ((go_at_call 117; refine (ahead_any _ n _ l ad c hn h20 HS.out.1 (by omega) (HS.out.2.below (And.left ‹Below (w.alloc (.cells #[.int .i64 n, .slice ad l.length c] 87)).heap.size (w.alloc (.cells #[.int .i64 n, .slice ad l.length c] 87)) _ ∧ _›))).mono ?_; rintro r wc ⟨rfl, hbc⟩; have hSc := keepP hbc ‹Below (w.alloc (.cells #[.int .i64 n, .slice ad l.length c] 87)).heap.size (w.alloc (.cells #[.int .i64 n, .slice ad l.length c] 87)) _ ∧ _›; clear hbc))
  all_goals
    go_wp2_with fail
    go_ret
    exact ⟨rfl, below_seq (below_new _ _) (And.left ‹Below (w.alloc (.cells #[.int .i64 n, .slice ad l.length c] 87)).heap.size (w.alloc (.cells #[.int .i64 n, .slice ad l.length c] 87)) _ ∧ _›)⟩

/-- chapter 13's Supply, of a right frame. -/
theorem supply_any (w : World) (n s k : Nat) (l : List Wi) (ad : Option Addr) (c : Nat) (hn : 1 ≤ n ∧ n ≤ 10000) (h20 : l.length ≤ 20) (hs : Srt n 0 l) (ht : s + k ≤ 100000) (hv : RowSl Wi.vals w l (.slice ad l.length c)) : Calls Tryz.prog 73 #[.agg #[.int .i64 (n : Int), .slice ad l.length c], .int .i64 (s : Int), .int .i64 (k : Int)] w fun r w' => r = .returned (.int .i64 (sup n l s k)) ∧ Below w.heap.size w w' := by
  have := supply_raw w n s k l ad c (by omega) h20 hs (by omega) hv
  rw [show (s : Int) + (k : Int) = ((s + k : Nat) : Int) by omega, ahead_cnt (by omega) hs, ahead_cnt (by omega) hs] at this
  exact this

def leastT (n : Int) (l : List Wi) (k j : Nat) : Int := (l.take j).foldl (fun m x => min m (sup n l (x.at_ + x.ln).toNat k)) (sup n l 0 k)

theorem leastT_succ {n : Int} {l : List Wi} {k j : Nat} {x : Wi} (h : l[j]? = some x) : leastT n l k (j + 1) = min (leastT n l k j) (sup n l (x.at_ + x.ln).toNat k) := by
  unfold leastT
  rw [take_succ_at h, List.foldl_append]
  rfl

set_option maxRecDepth 20000 in
set_option maxHeartbeats 4000000 in
/-- chapter 13's Least, of a right frame. -/
theorem least_any (w : World) (n k : Nat) (l : List Wi) (ad : Option Addr) (c : Nat) (hn : 1 ≤ n ∧ n ≤ 10000) (h20 : l.length ≤ 20) (hs : Srt n 0 l) (ht : k ≤ 20000) (hv : RowSl Wi.vals w l (.slice ad l.length c)) : Calls Tryz.prog 44 #[.agg #[.int .i64 (n : Int), .slice ad l.length c], .int .i64 (k : Int)] w fun r w' => r = .returned (.int .i64 (leastF n l k)) ∧ Below w.heap.size w w' := by
  have HV : Hid (RowSl Wi.vals (w.alloc (.cells #[.int .i64 n, .slice ad l.length c] 87)) l (.slice ad l.length c) ∧ Srt n 0 l) := ⟨hv.below (below_new _ _), hs⟩
  have HU : Hid (∀ (W : World) (s : Nat), s ≤ 20000 → Below (w.alloc (.cells #[.int .i64 n, .slice ad l.length c] 87)).heap.size (w.alloc (.cells #[.int .i64 n, .slice ad l.length c] 87)) W → Calls Tryz.prog 73 #[.agg #[.int .i64 (n : Int), .slice ad l.length c], .int .i64 (s : Int), .int .i64 (k : Int)] W fun r w' => r = .returned (.int .i64 (sup n l s k)) ∧ Below W.heap.size W w') := fun W s h1 h2 => supply_any W n s k l ad c hn h20 hs (by omega) (HV.out.1.below h2)
  have HU0 := HU.out (w.alloc (.cells #[.int .i64 n, .slice ad l.length c] 87)) 0 (by omega) (Below.refl _ _)
  rw [show ((0 : Nat) : Int) = 0 from rfl] at HU0
  obtain ⟨_, _, e, -, hcap, hrow⟩ := hv
  cases e
  have HR : Hid (l = [] ∨ ∃ b o, ad = some ⟨b, o, none⟩ ∧ ∀ q u, (l.flatMap Wi.vals)[q]? = some u → w.cell? ⟨b, o + q, none⟩ = some u) := hrow
  clear hrow hs
  go_enter Tryz.func44, Tryz.ntmps44
  go_wp2_with (go_at_call 73; refine HU0.mono ?_; rintro r w1 ⟨rfl, hb1⟩; have H1 : Hid (Below (w.alloc (.cells #[.int .i64 n, .slice ad l.length c] 87)).heap.size (w.alloc (.cells #[.int .i64 n, .slice ad l.length c] 87)) w1) := hb1; have k0 : w1.cell? ⟨w.heap.size, 0, none⟩ = some (.int .i64 (n : Int)) := below_cell hb1 (by go_simp); have k1 : w1.cell? ⟨w.heap.size, 1, none⟩ = some (.slice ad l.length c) := below_cell hb1 (by go_simp); clear hb1 HU0)
  go_loopw [5, 14] (fun s i wr => ∃ j : Nat, j ≤ l.length ∧ s = .int .i64 (leastT n l k j) ∧ i = .int .i64 j ∧ Below (w.alloc (.cells #[.int .i64 n, .slice ad l.length c] 87)).heap.size (w.alloc (.cells #[.int .i64 n, .slice ad l.length c] 87)) wr) (fun _ i _ => l.length - (intOf i).toNat)
  case atStart => exact ⟨0, Nat.zero_le _, by simp [leastT], rfl, H1.out⟩
  case round =>
    obtain ⟨j, hj, rfl, rfl, hb⟩ := hrel
    by_cases hlt : j < l.length
    · obtain ⟨x, hx, -⟩ := drop_at hlt
      rcases HR.out with h' | ⟨b, o, rfl, hrow⟩
      · rw [h'] at hlt; simp at hlt
      obtain ⟨c0, c1⟩ := wi_at (fun q u hq => below_cell (below_seq (below_new _ _) hb) (hrow q u hq)) hx
      have lb : b < wr.heap.size := World.block_lt_of_cell? _ _ c0
      have d0 : wr.cell? ⟨w.heap.size, 0, none⟩ = some (.int .i64 (n : Int)) := below_cell hb (by go_simp)
      have d1 : wr.cell? ⟨w.heap.size, 1, none⟩ = some (.slice (some ⟨b, o, none⟩) l.length c) := below_cell hb (by go_simp)
      have lw : w.heap.size < wr.heap.size := World.block_lt_of_cell? _ _ d0
      have hm := HV.out.2.mem (List.mem_of_getElem? hx)
      have HC := HU.out (wr.alloc (.cells #[.int .i64 x.at_, .int .i64 x.ln] 60)) (x.at_ + x.ln).toNat (by omega) (below_seq hb (below_new _ _))
      rw [show (((x.at_ + x.ln).toNat : Nat) : Int) = x.at_ + x.ln by omega] at HC
      have HB : Hid (Below (w.alloc (.cells #[.int .i64 (n : Int), .slice (some ⟨b, o, none⟩) l.length c] 87)).heap.size (w.alloc (.cells #[.int .i64 (n : Int), .slice (some ⟨b, o, none⟩) l.length c] 87)) wr) := hb
      have hji : (j : Int) < (l.length : Int) := by omega
      have HT : Hid (leastT n l k (j + 1) = min (leastT n l k j) (sup n l (x.at_ + x.ln).toNat k)) := leastT_succ hx
      clear hb hrow
      generalize leastT n l k j = A at *
      generalize sup n l (x.at_ + x.ln).toNat k = B at *
      go_wp2_with (go_at_call 73; refine HC.mono ?_; rintro r w2 ⟨rfl, hb2⟩; have H2 : Hid (Below (wr.alloc (.cells #[.int .i64 x.at_, .int .i64 x.ln] 60)).heap.size (wr.alloc (.cells #[.int .i64 x.at_, .int .i64 x.ln] 60)) w2) := hb2; clear hb2 HC)
      refine ⟨⟨j + 1, by omega, ?_, by simp, below_seq HB.out (below_seq (below_new _ _) H2.out)⟩, by simp [intOf]; omega⟩
      rw [HT.out]
      congr 1
      (repeat' split) <;> omega
    · have hje : j = l.length := by omega
      subst hje
      have e : leastT n l k l.length = leastF n l k := by unfold leastT leastF; rw [List.take_length]
      rw [e]
      go_wp2_with fail
      go_ret
      exact ⟨rfl, below_seq (below_new _ _) hb⟩

/-- The first of which p holds. -/
def findP {α : Type} (p : α → Bool) : List α → Nat → Int
  | [], _ => -1
  | y :: r, k => if p y = true then (k : Int) else findP p r (k + 1)

theorem findP_any {α : Type} (p : α → Bool) : ∀ (l : List α) (k : Nat), decide (0 ≤ findP p l k) = l.any p
  | [], k => by simp [findP]
  | y :: r, k => by
    by_cases h : p y = true
    · simp [findP, h]
    · simp [findP, h, ← findP_any p r (k + 1)]

theorem wthin_inW {r : Int} {x : Wi} : wthin r x.at_ (x.at_ + x.ln - 1) = inW r x := by
  unfold wthin inW
  congr 1
  rw [decide_eq_decide]
  omega

set_option maxRecDepth 20000 in
set_option maxHeartbeats 4000000 in
theorem open1_any (w : World) (n t : Int) (x : Wi) (gt gf : Nat) (hn : 1 ≤ n ∧ n ≤ 10000) (ht : 0 ≤ t) (hx : 0 ≤ x.at_ ∧ 1 ≤ x.ln ∧ x.at_ + x.ln ≤ n) (h1 : w.cell? ⟨gt, 0, none⟩ = some (.int .i64 t)) (h2 : w.cell? ⟨gf, 0, none⟩ = some (.int .i64 n)) : Calls Tryz.prog 93 #[.agg #[.int .i64 x.at_, .int .i64 x.ln], .pointer (some ⟨gt, 0, none⟩), .pointer (some ⟨gf, 0, none⟩)] w fun r w' => r = .returned (.bool (inW (t % n) x)) ∧ Below w.heap.size w w' := by
  have hn0 : ¬ n = 0 := by omega
  have e2 : t.tmod n = t % n := Int.tmod_eq_emod_of_nonneg ht
  have q2 := Int.emod_nonneg t hn0
  have q3 := Int.emod_lt_of_pos t (show 0 < n by omega)
  have w2 : IntKind.i64.wrap (t % n) = t % n := by rw [IntKind.wrap_i64]; omega
  have w3 : IntKind.i64.wrap (x.at_ + x.ln) = x.at_ + x.ln := by rw [IntKind.wrap_i64]; omega
  have w4 : IntKind.i64.wrap (x.at_ + x.ln - 1) = x.at_ + x.ln - 1 := by rw [IntKind.wrap_i64]; omega
  have l1 : gt < w.heap.size := World.block_lt_of_cell? _ _ h1
  have l2 : gf < w.heap.size := World.block_lt_of_cell? _ _ h2
  go_enter Tryz.func93, Tryz.ntmps93
  go_wp2_with fail
  go_region_held3 (fun w' => Below w.heap.size w w' ∧ w'.cell? ⟨gt, 0, none⟩ = some (.int .i64 t) ∧ w'.cell? ⟨gf, 0, none⟩ = some (.int .i64 n) ∧ w'.cell? ⟨w.heap.size, 0, none⟩ = some (.int .i64 x.at_) ∧ w'.cell? ⟨w.heap.size, 1, none⟩ = some (.int .i64 x.ln))
    (first | assumption | exact ⟨(below_new _ _).drew, by go_simp, by go_simp, by go_simp, by go_simp⟩)
    ((go_at_call 55; refine (wthin_any _ _ _ _).mono ?_; rintro r wc ⟨rfl, rfl⟩; rw [wthin_inW]))
  all_goals
    go_wp2_with fail
    go_ret
    exact ⟨rfl, And.left ‹Below w.heap.size w _ ∧ _›⟩

end Go.Proofs.YtccoobcggbbciaiGreatDoor
namespace Go.Proofs.YtccoobcggbbciaiGreatDoor
open Go.ChangeShapes Go.WideShapes Go.ChangeAt Go.RowKit

set_option maxRecDepth 20000 in
set_option maxHeartbeats 4000000 in
theorem indexW_any (w : World) (n t : Int) (l : List Wi) (v : Value) (gt gf : Nat) (hn : 1 ≤ n ∧ n ≤ 10000) (h20 : l.length ≤ 20) (hs : Srt n 0 l) (ht : 0 ≤ t) (hv : RowSl Wi.vals w l v) (h1 : w.cell? ⟨gt, 0, none⟩ = some (.int .i64 t)) (h2 : w.cell? ⟨gf, 0, none⟩ = some (.int .i64 n)) : Calls Tryz.prog 132 #[v, .func (Fn.func 93) #[] #[.pointer (some ⟨gt, 0, none⟩), .pointer (some ⟨gf, 0, none⟩)]] w fun r w' => r = .returned (.int .i64 (findP (inW (t % n)) l 0)) ∧ Below w.heap.size w w' := by
  obtain ⟨ad, c, rfl, -, hcap, hrow⟩ := hv
  go_enter Tryz.func132, Tryz.ntmps132
  go_wp2_with fail
  have HR : Hid ((l = [] ∨ ∃ b o, ad = some ⟨b, o, none⟩ ∧ ∀ q u, (l.flatMap Wi.vals)[q]? = some u → w.cell? ⟨b, o + q, none⟩ = some u) ∧ (w.cell? ⟨gt, 0, none⟩ = some (.int .i64 t) ∧ w.cell? ⟨gf, 0, none⟩ = some (.int .i64 n)) ∧ Srt n 0 l) := ⟨hrow, ⟨h1, h2⟩, hs⟩
  clear hrow h1 h2 hs
  go_loopw [8] (fun i wr => ∃ j : Nat, j ≤ l.length ∧ i = .int .i64 j ∧ Below w.heap.size w wr ∧ findP (inW (t % n)) (l.drop j) j = findP (inW (t % n)) l 0) (fun i _ => l.length - (intOf i).toNat)
  case atStart => exact ⟨0, Nat.zero_le _, rfl, Below.refl _ _, rfl⟩
  case round =>
    obtain ⟨j, hj, rfl, hb, hf⟩ := hrel
    by_cases hlt : j < l.length
    · obtain ⟨y, hy, hd⟩ := drop_at hlt
      rw [hd, findP] at hf
      rcases HR.out.1 with h | ⟨b, o, rfl, hrow⟩
      · rw [h] at hlt; simp at hlt
      obtain ⟨c0, c1⟩ := wi_at (fun q u hq => below_cell hb (hrow q u hq)) hy
      have hm := HR.out.2.2.mem (List.mem_of_getElem? hy)
      have HY := open1_any wr n t y gt gf hn ht hm (below_cell hb HR.out.2.1.1) (below_cell hb HR.out.2.1.2)
      have HB : Hid (Below w.heap.size w wr) := hb
      have HF : Hid ((if inW (t % n) y = true then (j : Int) else findP (inW (t % n)) (l.drop (j + 1)) (j + 1)) = findP (inW (t % n)) l 0) := hf
      clear hrow hb hf
      generalize hz : inW (t % n) y = z at *
      cases z
      · go_wp2_with (go_at_call 93; refine HY.mono ?_; rintro r w1 ⟨rfl, hb1⟩)
        have e := HF.out
        rw [if_neg (by simp)] at e
        exact ⟨⟨j + 1, by omega, by simp, below_seq HB.out hb1, e⟩, by simp [intOf]; omega⟩
      · go_wp2_with (go_at_call 93; refine HY.mono ?_; rintro r w1 ⟨rfl, hb1⟩)
        have e := HF.out
        rw [if_pos (by trivial)] at e
        go_ret
        exact ⟨by rw [← e]; rfl, below_seq HB.out hb1⟩
    · have hje : j = l.length := by omega
      subst hje
      rw [List.drop_length, findP] at hf
      go_wp2_with fail
      go_ret
      exact ⟨by rw [← hf]; rfl, hb⟩

set_option maxRecDepth 20000 in
theorem containsW_any (w : World) (n t : Int) (l : List Wi) (v : Value) (gt gf : Nat) (hn : 1 ≤ n ∧ n ≤ 10000) (h20 : l.length ≤ 20) (hs : Srt n 0 l) (ht : 0 ≤ t) (hv : RowSl Wi.vals w l v) (h1 : w.cell? ⟨gt, 0, none⟩ = some (.int .i64 t)) (h2 : w.cell? ⟨gf, 0, none⟩ = some (.int .i64 n)) : Calls Tryz.prog 94 #[v, .func (Fn.func 93) #[] #[.pointer (some ⟨gt, 0, none⟩), .pointer (some ⟨gf, 0, none⟩)]] w fun r w' => r = .returned (.bool (thr n l t)) ∧ Below w.heap.size w w' := by
  unfold thr
  rw [← findP_any (inW (t % n)) l 0]
  have HI := indexW_any w n t l v gt gf hn h20 hs ht hv h1 h2
  obtain ⟨ad, c, rfl, -⟩ := hv
  go_enter Tryz.func94, Tryz.ntmps94
  go_wp2_with (go_at_call 132; refine HI.mono ?_; rintro r w1 ⟨rfl, hb1⟩)
  go_ret
  exact ⟨rfl, hb1⟩

set_option maxRecDepth 20000 in
/-- Is the core there? Of a right frame. -/
theorem open_any (w : World) (n t : Int) (l : List Wi) (ad : Option Addr) (c : Nat) (hn : 1 ≤ n ∧ n ≤ 10000) (h20 : l.length ≤ 20) (hs : Srt n 0 l) (ht : 0 ≤ t) (hv : RowSl Wi.vals w l (.slice ad l.length c)) : Calls Tryz.prog 59 #[.agg #[.int .i64 n, .slice ad l.length c], .int .i64 t] w fun r w' => r = .returned (.bool (thr n l t)) ∧ Below w.heap.size w w' := by
  have hb0 : Below w.heap.size w ((w.alloc (.cells #[.int .i64 n, .slice ad l.length c] 87)).alloc (.cells #[.int .i64 t] 3)) := below_seq (below_new _ _) (below_new _ _)
  have HI := containsW_any ((w.alloc (.cells #[.int .i64 n, .slice ad l.length c] 87)).alloc (.cells #[.int .i64 t] 3)) n t l _ (w.heap.size + 1) w.heap.size hn h20 hs ht (hv.below hb0) (by go_simp) (by go_simp)
  have H0 : Hid (Below w.heap.size w ((w.alloc (.cells #[.int .i64 n, .slice ad l.length c] 87)).alloc (.cells #[.int .i64 t] 3))) := hb0
  clear hv hb0
  go_enter Tryz.func59, Tryz.ntmps59
  go_wp2_with (go_at_call 94; refine HI.mono ?_; rintro r w1 ⟨rfl, hb1⟩)
  go_ret
  exact ⟨rfl, below_seq H0.out hb1⟩

set_option maxRecDepth 20000 in
/-- chapter 13's Open. -/
theorem Open_any (w : World) (n t : Int) (l : List Wi) (v : Value) (hv : RowSl Wi.vals w l v) : Calls Tryz.prog 40 #[.int .i64 n, v, .int .i64 t] w fun r w' => r = .returned (.bool (decide ((frmF n l).1 = 0) && decide (0 ≤ t) && thr n l t)) ∧ Below w.heap.size w w' := by
  have HF := Frame_any w n l v hv
  obtain ⟨ad, c, rfl⟩ := hv.len
  rcases hz : frmF n l with ⟨z, y⟩
  rw [hz] at HF
  dsimp only at HF ⊢
  have HV : Hid (RowSl Wi.vals w l (.slice ad l.length c)) := hv
  clear hv
  by_cases h0 : z = 0
  · subst h0
    obtain ⟨hn, h20, hs, rfl⟩ := frmF_good hz
    by_cases ht : t < 0
    · have e : decide (0 ≤ t) = false := by simp; omega
      rw [e]
      go_enter Tryz.func40, Tryz.ntmps40
      go_wp2_with (go_at_call 42; refine HF.mono ?_; rintro r w1 ⟨rfl, hb1⟩; have H1 : Hid (Below w.heap.size w w1) := hb1; clear hb1)
      go_ret
      exact ⟨by simp, below_seq H1.out (below_new _ _)⟩
    · have e : decide (0 ≤ t) = true := by simp; omega
      rw [e]
      have ht' : 0 ≤ t := by omega
      have HO : Hid (∀ W, Below w.heap.size w W → Calls Tryz.prog 59 #[.agg #[.int .i64 n, .slice ad l.length c], .int .i64 t] W fun r w' => r = .returned (.bool (thr n l t)) ∧ Below W.heap.size W w') := fun W hW => open_any W n t l ad c hn h20 hs ht' (HV.out.below hW)
      go_enter Tryz.func40, Tryz.ntmps40
      go_wp2_with (first
        | (go_at_call 59; refine (HO.out _ (below_seq H1.out (below_new _ _))).mono ?_; rintro r w2 ⟨rfl, hb2⟩)
        | (go_at_call 42; refine HF.mono ?_; rintro r w1 ⟨rfl, hb1⟩; have H1 : Hid (Below w.heap.size w w1) := hb1; clear hb1))
      go_ret
      exact ⟨by simp, below_seq (below_seq H1.out (below_new _ _)) hb2⟩
  · have e : decide (z = 0) = false := by simp [h0]
    rw [e]
    go_enter Tryz.func40, Tryz.ntmps40
    go_wp2_with (go_at_call 42; refine HF.mono ?_; rintro r w1 ⟨rfl, hb1⟩; have H1 : Hid (Below w.heap.size w w1) := hb1; clear hb1)
    go_ret
    exact ⟨by simp, below_seq H1.out (below_new _ _)⟩

end Go.Proofs.YtccoobcggbbciaiGreatDoor
