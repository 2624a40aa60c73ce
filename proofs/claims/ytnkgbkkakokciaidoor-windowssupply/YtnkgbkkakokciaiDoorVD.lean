import Derived.Test.YtnkgbkkakokciaiDoorVB
namespace Go.Proofs.YtnkgbkkakokciaiDoor
open Go.ChangeShapes Go.WideShapes Go.ChangeAt Go.RowKit

def frmV (n : Int) (v : Value) : Value := .agg #[.int .i64 n, v]

theorem take_succ_at {α : Type} {l : List α} {j : Nat} {x : α} (h : l[j]? = some x) : l.take (j + 1) = l.take j ++ [x] := by
  rw [List.take_add_one, h]
  rfl

theorem aheadF_take {n t : Int} {l : List Wi} {j : Nat} {x : Wi} (h : l[j]? = some x) : aheadF n (l.take (j + 1)) t = aheadF n (l.take j) t + aheadW n t x := by
  unfold aheadF
  rw [take_succ_at h]
  simp

theorem aheadW_le {n t : Int} {x : Wi} (hn : 1 ≤ n) (h0 : 0 ≤ t) (ht : t ≤ 100000) (h1 : 1 ≤ x.ln) (h2 : x.ln ≤ 10000) : (0 ≤ t / n ∧ t / n ≤ 100000) ∧ (0 ≤ (t / n) * x.ln ∧ (t / n) * x.ln ≤ 1000000000) ∧ 0 ≤ aheadW n t x ∧ aheadW n t x ≤ 1000010000 := by
  have q0 : 0 ≤ t / n := Int.ediv_nonneg h0 (by omega)
  have q1 : t / n ≤ 100000 := Int.le_trans (Int.ediv_le_self n h0) ht
  have m0 : 0 ≤ (t / n) * x.ln := Int.mul_nonneg q0 (by omega)
  have m1 : (t / n) * x.ln ≤ 100000 * 10000 := Int.mul_le_mul q1 h2 (by omega) (by omega)
  refine ⟨⟨q0, q1⟩, ⟨m0, by omega⟩, ?_⟩
  unfold aheadW
  omega

theorem aheadF_le {n t : Int} (hn : 1 ≤ n) (hn2 : n ≤ 10000) (h0 : 0 ≤ t) (ht : t ≤ 100000) : ∀ {l : List Wi} {e : Int}, 0 ≤ e → Srt n e l → 0 ≤ aheadF n l t ∧ aheadF n l t ≤ 1000010000 * l.length
  | [], _, _, _ => by simp [aheadF]
  | x :: r, e, he, h => by
    have ih := aheadF_le hn hn2 h0 ht (l := r) (by have := h.1; have := h.2.1; omega) h.2.2.2
    have hx := aheadW_le (x := x) hn h0 ht h.2.1 (by have := h.1; have := h.2.2.1; omega)
    unfold aheadF at *
    rw [List.map_cons, List.sum_cons, List.length_cons]
    omega

theorem Srt.take {n : Int} : ∀ {l : List Wi} {e : Int} (j : Nat), Srt n e l → Srt n e (l.take j)
  | [], _, j, _ => by simp [Srt]
  | x :: r, e, 0, _ => by simp [Srt]
  | x :: r, e, j + 1, h => ⟨h.1, h.2.1, h.2.2.1, Srt.take j h.2.2.2⟩

set_option maxRecDepth 20000 in
set_option maxHeartbeats 4000000 in
theorem ahead_any (w : World) (n t : Int) (l : List Wi) (ad : Option Addr) (c : Nat) (hn : 1 ≤ n ∧ n ≤ 10000) (h20 : l.length ≤ 20) (hs : Srt n 0 l) (ht : 0 ≤ t ∧ t ≤ 100000) (hv : RowSl Wi.vals w l (.slice ad l.length c)) : Calls Tryd.prog 29 #[.agg #[.int .i64 n, .slice ad l.length c], .int .i64 t] w fun r w' => r = .returned (.int .i64 (aheadF n l t)) ∧ Below w.heap.size w w' := by
  obtain ⟨_, _, e, -, hcap, hrow⟩ := hv
  cases e
  have HR : Hid ((l = [] ∨ ∃ b o, ad = some ⟨b, o, none⟩ ∧ ∀ q u, (l.flatMap Wi.vals)[q]? = some u → w.cell? ⟨b, o + q, none⟩ = some u) ∧ Srt n 0 l) := ⟨hrow, hs⟩
  clear hrow hs
  have hn0 : ¬ n = 0 := by omega
  have e1 : t.tdiv n = t / n := Int.tdiv_eq_ediv_of_nonneg (by omega)
  have e2 : t.tmod n = t % n := Int.tmod_eq_emod_of_nonneg (by omega)
  have q0 : 0 ≤ t / n := Int.ediv_nonneg (by omega) (by omega)
  have q1 : t / n ≤ 100000 := Int.le_trans (Int.ediv_le_self n (by omega)) (by omega)
  have q2 := Int.emod_nonneg t hn0
  have q3 := Int.emod_lt_of_pos t (show 0 < n by omega)
  have w1 : IntKind.i64.wrap (t / n) = t / n := by rw [IntKind.wrap_i64]; omega
  have w2 : IntKind.i64.wrap (t % n) = t % n := by rw [IntKind.wrap_i64]; omega
  go_enter Tryd.func29, Tryd.ntmps29
  go_wp2_with fail
  refine wp_region_noPanic ?_
  refine wp_region_held_drew (S := fun w' => w'.cell? ⟨w.heap.size, 0, none⟩ = some (.int .i64 n)) (by kernel_rfl) (by go_simp) (fun hHeld => ?_)
  refine take_at (i := 0) (n := 10) (v := ?_) rfl rfl (by kernel_rfl) (by kernel_rfl) (by kernel_rfl) (fun _ _ _ h => h) (Or.inl ⟨by rfl, ?_⟩) (by assumption) ?_
  rotate_left 1
  · intro wz hSw
    have k0 := hSw
    first | (go_simp; done) | (go_simp; with_reducible rfl)
  simp only [List.set_cons_zero, List.set_cons_succ]
  refine take_at (i := 1) (n := 11) (v := ?_) rfl rfl (by kernel_rfl) (by kernel_rfl) (by kernel_rfl) (fun _ _ _ h => h) (Or.inl ⟨by rfl, ?_⟩) (by assumption) ?_
  rotate_left 1
  · intro wz hSw
    have k0 := hSw
    first | (go_simp; done) | (go_simp; with_reducible rfl)
  simp only [List.set_cons_zero, List.set_cons_succ]
  refine take_at (i := 2) (n := 12) (v := ?_) rfl rfl (by kernel_rfl) (by kernel_rfl) (by kernel_rfl) (fun _ _ _ h => h) (Or.inl ⟨by rfl, ?_⟩) (by assumption) ?_
  rotate_left 1
  · intro wz hSw
    have k0 := hSw
    first | (go_simp; done) | (go_simp; with_reducible rfl)
  simp only [List.set_cons_zero, List.set_cons_succ]
  refine take_at (i := 3) (n := 13) (v := ?_) rfl rfl (by kernel_rfl) (by kernel_rfl) (by kernel_rfl) (fun _ _ _ h => h) (Or.inl ⟨by rfl, ?_⟩) (by assumption) ?_
  rotate_left 1
  · intro wz hSw
    have k0 := hSw
    first | (go_simp; done) | (go_simp; with_reducible rfl)
  simp only [List.set_cons_zero, List.set_cons_succ]
  refine take_at (i := 4) (n := 14) (v := ?_) rfl rfl (by kernel_rfl) (by kernel_rfl) (by kernel_rfl) (fun _ _ _ h => h) (Or.inl ⟨by rfl, ?_⟩) (by assumption) ?_
  rotate_left 1
  · intro wz hSw
    have k0 := hSw
    first | (go_simp; done) | (go_simp; with_reducible rfl)
  simp only [List.set_cons_zero, List.set_cons_succ]
  refine take_at (i := 5) (n := 15) (v := ?_) rfl rfl (by kernel_rfl) (by kernel_rfl) (by kernel_rfl) (fun _ _ _ h => h) (Or.inl ⟨by rfl, ?_⟩) (by assumption) ?_
  rotate_left 1
  · intro wz hSw
    have k0 := hSw
    first | (go_simp; done) | (go_simp; with_reducible rfl)
  simp only [List.set_cons_zero, List.set_cons_succ]
  refine take_at (i := 6) (n := 16) (v := ?_) rfl rfl (by kernel_rfl) (by kernel_rfl) (by kernel_rfl) (fun _ _ _ h => h) (Or.inl ⟨by rfl, ?_⟩) (by assumption) ?_
  rotate_left 1
  · intro wz hSw
    have k0 := hSw
    first | (go_simp; done) | (go_simp; with_reducible rfl)
  simp only [List.set_cons_zero, List.set_cons_succ]
  refine take_at (i := 7) (n := 17) (v := ?_) rfl rfl (by kernel_rfl) (by kernel_rfl) (by kernel_rfl) (fun _ _ _ h => h) (Or.inl ⟨by rfl, ?_⟩) (by assumption) ?_
  rotate_left 1
  · intro wz hSw
    have k0 := hSw
    first | (go_simp; done) | (go_simp; with_reducible rfl)
  simp only [List.set_cons_zero, List.set_cons_succ]
  refine take_at (i := 8) (n := 5) (v := ?_) rfl rfl (by kernel_rfl) (by kernel_rfl) (by kernel_rfl) (fun _ _ _ h => h) (Or.inl ⟨by rfl, ?_⟩) (by assumption) ?_
  rotate_left 1
  · intro wz hSw
    have k0 := hSw
    first | (go_simp; done) | (go_simp; with_reducible rfl)
  simp only [List.set_cons_zero, List.set_cons_succ]
  refine take_at (i := 9) (n := 6) (v := ?_) rfl rfl (by kernel_rfl) (by kernel_rfl) (by kernel_rfl) (fun _ _ _ h => h) (Or.inl ⟨by rfl, ?_⟩) (by assumption) ?_
  rotate_left 1
  · intro wz hSw
    have k0 := hSw
    first | (go_simp; done) | (go_simp; with_reducible rfl)
  simp only [List.set_cons_zero, List.set_cons_succ]
  refine wpAnyH_done (by kernel_rfl) ?_ _
  refine NoPanic.normal ?_
  clear hHeld
  go_wp2_with fail
  go_loopw [7, 21] (fun s i wr => ∃ j : Nat, j ≤ l.length ∧ s = .int .i64 (aheadF n (l.take j) t) ∧ i = .int .i64 j ∧ Below w.heap.size w wr) (fun _ i _ => l.length - (intOf i).toNat)
  case atStart => exact ⟨0, Nat.zero_le _, by simp [aheadF], rfl, (below_new _ _).drew⟩
  case round =>
    obtain ⟨j, hj, rfl, rfl, hb⟩ := hrel
    by_cases hlt : j < l.length
    · obtain ⟨x, hx, -⟩ := drop_at hlt
      rcases HR.out.1 with h' | ⟨b, o, rfl, hrow⟩
      · rw [h'] at hlt; simp at hlt
      obtain ⟨c0, c1⟩ := wi_at (fun q u hq => below_cell hb (hrow q u hq)) hx
      have lb : b < wr.heap.size := World.block_lt_of_cell? _ _ c0
      have HB : Hid (Below w.heap.size w wr) := hb
      have hji : (j : Int) < (l.length : Int) := by omega
      have hm := HR.out.2.mem (List.mem_of_getElem? hx)
      obtain ⟨-, ⟨p0, p1⟩, b0, b1⟩ := aheadW_le (x := x) hn.1 ht.1 ht.2 hm.2.1 (by omega)
      have hle := aheadF_le hn.1 hn.2 ht.1 ht.2 (Int.le_refl 0) (HR.out.2.take j)
      have hlen : ((l.take j).length : Int) ≤ 20 := by simp; omega
      have ht1 := aheadF_take (n := n) (t := t) hx
      generalize hA : aheadF n (l.take j) t = A at *
      have w3 : IntKind.i64.wrap (t / n * x.ln) = t / n * x.ln := by rw [IntKind.wrap_i64]; omega
      have w4 : IntKind.i64.wrap (t % n - x.at_) = t % n - x.at_ := by rw [IntKind.wrap_i64]; omega
      have HT : Hid (aheadF n (l.take (j + 1)) t = A + aheadW n t x) := ht1
      clear hb hrow ht1 hA
      go_wp2_with fail
      refine ⟨⟨j + 1, by omega, ?_, by simp, below_seq HB.out (below_new _ _)⟩, by simp [intOf]; omega⟩
      rw [HT.out]
      congr 1
      unfold aheadW
      (repeat' split) <;> omega
    · have hje : j = l.length := by omega
      subst hje
      rw [List.take_length]
      go_wp2_with fail
      go_ret
      exact ⟨rfl, hb⟩

end Go.Proofs.YtnkgbkkakokciaiDoor
