import Derived.Test.YtcmoehednkaehahOQ
import Derived.Test.YtcmoehednkaehahOZ
namespace Go.Proofs.Ytcmoehednkaehah
open Go.ChangeShapes Go.WideShapes Go.ChangeAt Go.RowKit
open Once

theorem region_append {P : Program} {ops : Array Oper} {o : Oper} {a : Act} {w : World} {K : Act → World → Prop} {Q : Exit → Act → World → Prop} {E : Prop} [Decidable (Region.wanted o (yielded ops a.tmps) = true)] (hgd : o.guard = none) (s x : Operand) (t : TypeId)
    (ho : o.op = .call { callee := .builtin .append, args := #[s, x], argTypes := #[t, t] }) {v u v' : Value} {w' : World} (hs : a.eval s = v) (hx : a.eval x = u)
    (hrun : (Builtin.append_ #[t, t] o.type #[v, u]).run P w = .ok v' w') (h : K (a.put o.dst v') w') : if Region.wanted o (yielded ops a.tmps) = true then Oper.wp P o a w K Q else E := by
  have hw : Region.wanted o (yielded ops a.tmps) = true := by simp [Region.wanted, hgd]
  rw [if_pos hw]
  unfold Oper.wp
  simp [execOp, ho, resolve, invoke, builtin, hs, hx, hrun, Result.andThen]
  exact h

/-- One number more. -/
theorem Stk.push {W : World} {B : Nat} {rv : Value} {runs : List Int} (h : Stk W B rv runs) (f : Int) (hl : runs.length ≤ 100000) (hB : B ≤ W.heap.size) :
    ∃ rv' w4, (Builtin.append_ #[26, 26] 26 #[rv, .slice (some ⟨W.heap.size, 0, none⟩) 1 1]).run Try.prog (W.alloc (.cells #[.int .i64 f] 3)) = .ok rv' w4 ∧ Stk w4 B rv' (runs ++ [f]) ∧ Below B W w4 := by
  obtain ⟨i0, hi0, hz0, hz1, hz2⟩ := info_parts info3
  have h1 := h.grow (below_new W (.cells #[.int .i64 f] 3))
  obtain ⟨v4, w4, hrun, ho4, hg4, -, -⟩ := run_append_own_at (P := Try.prog) (w := W.alloc (.cells #[.int .i64 f] 3)) B 26 26 3 i0 _ 1 8 Try.underlying26 hi0 hz0 hz1 hz2 rfl (by decide) rv runs.length (runs.map (Value.int .i64)) h1 ⟨W.heap.size, 0, none⟩ 1 1 [.int .i64 f] rfl (fun j u hj => by rw [Addr.add_lit]; have := (cells_of (l := [.int .i64 f]) (heap_alloc_new W (.cells #[.int .i64 f] 3))).1 j u hj; simpa using this) (fun u hu => by simp at hu; subst hu; rfl) (by unfold maxLen; omega) (by omega) (by simp; omega)
  refine ⟨v4, w4, hrun, ?_, ((below_new W _).mono hB).grown hg4 (by simp; omega) (fun k hk => h.low hk)⟩
  unfold Stk
  rw [List.length_append, List.map_append]
  exact ho4

/-- All of a run lies below B, and who ran above it. -/
structure Lows (w0 : World) (A : Ad) (B : Nat) : Prop where
  bs : A.R < B ∧ A.J < B ∧ A.E < B ∧ A.T < B ∧ A.C < B
  w : w0.heap.size ≤ B
  F : A.F = fun _ => none
  top : B = A.T + 1

theorem RunW.other {w0 w w' : World} {A : Ad} {pr : Int} {tp : List Int} {n B : Nat} {rv : Value} {x : Rs} (h : RunW w0 w A pr tp n rv x) (hb : Below B w w') (hl : Lows w0 A B) : RunW w0 w' A pr tp n rv x := by
  obtain ⟨b1, b2, b3, b4, b5⟩ := hl.bs
  exact ⟨h.bel.trans (hb.mono hl.w), h.lo, h.ne, (hb.block _ b1).trans h.hR, (hb.block _ b2).trans h.hJ, (hb.block _ b3).trans h.hE, (hb.block _ b4).trans h.hT, (hb.block _ b5).trans h.hC, h.ln, fun k o hk => by rw [hl.F] at hk; cases hk⟩

/-- What a run is at the beginning of a tick. -/
structure TW (l : List Lj) (w0 w : World) (A : Ad) (B now : Nat) (runs : List Int) : Prop where
  run : ∃ rv x, RunW w0 w A 3 (topsF l) l.length rv x ∧ Stk w B rv runs ∧ G l now runs (nrm x)
  low : Lows w0 A B

set_option maxRecDepth 20000 in
set_option maxHeartbeats 4000000 in
/-- A tick. -/
theorem tick_any {l : List Lj} (ok : Ok l) (w0 w : World) (A : Ad) (B now : Nat) (runs : List Int) (h : TW l w0 w A B now runs) (hacts : ∀ y ∈ l, RowSl Ac.vals w0 y.acts y.v) (hnow : now ≤ 20000) :
    Calls Try.prog 22 #[.pointer (some ⟨A.R, 0, none⟩), .int .i64 (now : Int)] w fun r w' => r = .returned (.tuple #[]) ∧ ∃ f, TW l w0 w' A B (now + 1) (runs ++ [f]) := by
  obtain ⟨⟨rv, x, hr, hst, g⟩, hlow⟩ := h
  obtain ⟨ad, c, rfl⟩ := owns_value hst
  obtain ⟨b1, b2, b3, b4, b5⟩ := hlow.bs
  have hrl : runs.length = now := g.rl
  have hr2 := hr.drew.beside (fun k => if (Value.slice ad runs.length c).ownBlock = some k then w.heap[k]? else none) (fun k o hk => by
    by_cases hkk : (Value.slice ad runs.length c).ownBlock = some k
    · rw [if_pos hkk] at hk
      have := hst.low hkk
      exact ⟨⟨by omega, by omega, by omega, by omega⟩, hk⟩
    · rw [if_neg hkk] at hk; cases hk)
  have HBeg := begin_any ok w0 w.drew _ (.slice ad runs.length c) x hr2 hacts now hnow runs g
  dsimp only at HBeg
  have HB : Hid (∀ w1 f x', RunW w0 w1 { A with F := fun k => if (Value.slice ad runs.length c).ownBlock = some k then w.heap[k]? else none } 3 (topsF l) l.length (.slice ad runs.length c) x' → G l (now + 1) (runs ++ [f]) (nrm x') → w1.cell? ⟨A.R, 0, none⟩ = some (.slice ad runs.length c) ∧ A.R < w1.heap.size ∧ ∃ ad4 c4 w4, (Builtin.append_ #[26, 26] 26 #[.slice ad runs.length c, .slice (some ⟨w1.heap.size, 0, none⟩) 1 1]).run Try.prog (w1.alloc (.cells #[.int .i64 f] 3)) = .ok (.slice ad4 (runs.length + 1) c4) w4 ∧ w4.cell? ⟨A.R, 0, none⟩ = some (.slice ad runs.length c) ∧ w4.frozen? ⟨A.R, 0, none⟩ = false ∧ A.R < w4.heap.size ∧ RunW w0 (w4.setCell ⟨A.R, 0, none⟩ (.slice ad4 (runs.length + 1) c4)) A 3 (topsF l) l.length (.slice ad4 (runs.length + 1) c4) x' ∧ TW l w0 (w4.setCell ⟨A.R, 0, none⟩ (.slice ad4 (runs.length + 1) c4)) A B (now + 1) (runs ++ [f])) := by
    intro w1 f x' h1 hg1
    have h1' : RunW w0 w1 A 3 (topsF l) l.length (.slice ad runs.length c) x' := h1.beside A.F (fun k o hk => by rw [hlow.F] at hk; cases hk)
    have hst1 : Stk w1 B (.slice ad runs.length c) runs := hst.keep (fun k hk => by
      have hlt : ∃ o, w.heap[k]? = some o := by
        rcases hst.cases with ⟨h0, -⟩ | ⟨g', cap, cur, h0, -, h2, -⟩
        · rw [h0] at hk; cases hk
        · rw [h0] at hk; cases hk; exact ⟨_, h2⟩
      obtain ⟨o, ho⟩ := hlt
      have := (h1.fr k o (by dsimp only; rw [if_pos hk]; exact ho)).2
      rw [this, ho])
    have hB1 : B ≤ w1.heap.size := by
      have := h1'.lts.2.2.2.1
      have := hlow.top
      omega
    obtain ⟨rv', w4, q1, q2, q3⟩ := hst1.push f (by omega) hB1
    obtain ⟨ad4, c4, e4⟩ := owns_value q2
    rw [List.length_append] at e4
    subst e4
    have h4 := h1'.other q3 hlow
    have h5 := h4.setR (.slice ad4 (runs.length + [f].length) c4)
    refine ⟨h1'.own.1, h1'.lts.1, ad4, c4, w4, q1, h4.own.1, h4.frz.1 0, h4.lts.1, h5, ⟨⟨_, x', h5, ?_, hg1⟩, hlow⟩⟩
    refine q2.keep (fun k hk => Below.heap_setCell _ _ _ _ ?_)
    have := q2.low hk
    show k ≠ A.R
    omega
  have hS0 : w.drew.cell? ⟨A.R, 0, none⟩ = some (.slice ad runs.length c) := hr.own.1
  have HW : Hid (G l now runs (nrm x) ∧ l.length ≤ 100) := ⟨g, ok.few⟩
  clear hr hst g hr2 hlow hacts b1 b2 b3 b4 b5 hrl ok
  go_enter Try.func22, Try.ntmps22
  go_wp2_with fail
  refine wp_region_noPanic ?_
  refine wp_region_last (S := fun w' => w'.cell? ⟨A.R, 0, none⟩ = some (.slice ad runs.length c)) (L := 16) (by kernel_rfl) ?_
  refine takeL_at (i := 0) (n := 5) (v := ?_) rfl rfl (by kernel_rfl) (by kernel_rfl) (by decide) (by kernel_rfl) (by kernel_rfl) (by kernel_rfl) (fun _ _ _ h => h) (Or.inl ⟨by rfl, ?_⟩) (by assumption) ?_
  rotate_left 1
  · intro wz hSw
    first | (go_simp; done) | (go_simp; with_reducible rfl)
  simp only [List.set_cons_zero, List.set_cons_succ]
  refine takeL_at (i := 1) (n := 6) (v := ?_) rfl rfl (by kernel_rfl) (by kernel_rfl) (by decide) (by kernel_rfl) (by kernel_rfl) (by kernel_rfl) (fun _ _ _ h => h) (Or.inl ⟨by rfl, ?_⟩) (by assumption) ?_
  rotate_left 1
  · intro wz hSw
    first | (go_simp; done) | (go_simp; with_reducible rfl)
  simp only [List.set_cons_zero, List.set_cons_succ]
  refine takeL_at (i := 2) (n := 7) (v := ?_) rfl rfl (by kernel_rfl) (by kernel_rfl) (by decide) (by kernel_rfl) (by kernel_rfl) (by kernel_rfl) (fun _ _ _ h => h) (Or.inl ⟨by rfl, ?_⟩) (by assumption) ?_
  rotate_left 1
  · intro wz hSw
    first | (go_simp; done) | (go_simp; with_reducible rfl)
  simp only [List.set_cons_zero, List.set_cons_succ]
  refine takeL_at (i := 3) (n := 8) (v := ?_) rfl rfl (by kernel_rfl) (by kernel_rfl) (by decide) (by kernel_rfl) (by kernel_rfl) (by kernel_rfl) (fun _ _ _ h => h) (Or.inl ⟨by rfl, ?_⟩) (by assumption) ?_
  rotate_left 1
  · intro wz hSw
    first | (go_simp; done) | (go_simp; with_reducible rfl)
  simp only [List.set_cons_zero, List.set_cons_succ]
  refine takeL_at (i := 4) (n := 9) (v := ?_) rfl rfl (by kernel_rfl) (by kernel_rfl) (by decide) (by kernel_rfl) (by kernel_rfl) (by kernel_rfl) (fun _ _ _ h => h) (Or.inl ⟨by rfl, ?_⟩) (by assumption) ?_
  rotate_left 1
  · intro wz hSw
    first | (go_simp; done) | (go_simp; with_reducible rfl)
  simp only [List.set_cons_zero, List.set_cons_succ]
  refine takeL_at (i := 5) (n := 10) (v := ?_) rfl rfl (by kernel_rfl) (by kernel_rfl) (by decide) (by kernel_rfl) (by kernel_rfl) (by kernel_rfl) (fun _ _ _ h => h) (Or.inl ⟨by rfl, ?_⟩) (by assumption) ?_
  rotate_left 1
  · intro wz hSw
    first | (go_simp; done) | (go_simp; with_reducible rfl)
  simp only [List.set_cons_zero, List.set_cons_succ]
  refine takeL_at (i := 6) (n := 11) (v := ?_) rfl rfl (by kernel_rfl) (by kernel_rfl) (by decide) (by kernel_rfl) (by kernel_rfl) (by kernel_rfl) (fun _ _ _ h => h) (Or.inl ⟨by rfl, ?_⟩) (by assumption) ?_
  rotate_left 1
  · intro wz hSw
    first | (go_simp; done) | (go_simp; with_reducible rfl)
  simp only [List.set_cons_zero, List.set_cons_succ]
  refine takeL_at (i := 7) (n := 12) (v := ?_) rfl rfl (by kernel_rfl) (by kernel_rfl) (by decide) (by kernel_rfl) (by kernel_rfl) (by kernel_rfl) (fun _ _ _ h => h) (Or.inl ⟨by rfl, ?_⟩) (by assumption) ?_
  rotate_left 1
  · intro wz hSw
    first | (go_simp; done) | (go_simp; with_reducible rfl)
  simp only [List.set_cons_zero, List.set_cons_succ]
  refine takeL_at (i := 8) (n := 13) (v := ?_) rfl rfl (by kernel_rfl) (by kernel_rfl) (by decide) (by kernel_rfl) (by kernel_rfl) (by kernel_rfl) (fun _ _ _ h => h) (Or.inl ⟨by rfl, ?_⟩) (by assumption) ?_
  rotate_left 1
  · intro wz hSw
    first | (go_simp; done) | (go_simp; with_reducible rfl)
  simp only [List.set_cons_zero, List.set_cons_succ]
  refine wpAnyL_one (i := 9) (by kernel_rfl) rfl (fun K' hK' => ?_)
  go_simp
  go_wp2_with (go_at_call 30; refine HBeg.mono ?_; rintro r w1 ⟨f, x1, rfl, hw1, hg1⟩; obtain ⟨s1, l1, ad4, c4, w4, hrun, s4, f4, l4, r4, t4⟩ := HB.out w1 f x1 hw1 hg1; have H4 : Hid (RunW w0 (w4.setCell ⟨A.R, 0, none⟩ (.slice ad4 (runs.length + 1) c4)) A 3 (topsF l) l.length (.slice ad4 (runs.length + 1) c4) x1 ∧ TW l w0 (w4.setCell ⟨A.R, 0, none⟩ (.slice ad4 (runs.length + 1) c4)) A B (now + 1) (runs ++ [f]) ∧ G l (now + 1) (runs ++ [f]) (nrm x1)) := ⟨r4, t4, hg1⟩; clear hw1 hg1 HBeg HB r4 t4)
  refine hK'.out _ _ (fun _ => s1) ?_
  clear hK' K'
  refine wpAnyL_one (i := 10) (by kernel_rfl) rfl (fun K' hK' => ?_)
  go_simp
  refine hK'.out _ _ (fun _ => below_cell (below_new _ _) s1) ?_
  clear hK' K'
  refine wpAnyL_one (i := 11) (by kernel_rfl) rfl (fun K' hK' => ?_)
  refine region_append rfl (.tmp 11) (.tmp 15) 26 rfl rfl rfl hrun ?_
  refine hK'.out _ _ (fun _ => s4) ?_
  clear hK' K'
  refine takeL_at (i := 12) (n := 17) (v := ?_) rfl rfl (by kernel_rfl) (by kernel_rfl) (by decide) (by kernel_rfl) (by kernel_rfl) (by kernel_rfl) (fun _ _ _ h => h) (Or.inl ⟨by rfl, ?_⟩) (by assumption) ?_
  rotate_left 1
  · intro wz hSw
    first | (go_simp; done) | (go_simp; with_reducible rfl)
  simp only [List.set_cons_zero, List.set_cons_succ]
  refine takeL_at (i := 13) (n := 18) (v := ?_) rfl rfl (by kernel_rfl) (by kernel_rfl) (by decide) (by kernel_rfl) (by kernel_rfl) (by kernel_rfl) (fun _ _ _ h => h) (Or.inl ⟨by rfl, ?_⟩) (by assumption) ?_
  rotate_left 1
  · intro wz hSw
    first | (go_simp; done) | (go_simp; with_reducible rfl)
  simp only [List.set_cons_zero, List.set_cons_succ]
  refine takeL_at (i := 14) (n := 19) (v := ?_) rfl rfl (by kernel_rfl) (by kernel_rfl) (by decide) (by kernel_rfl) (by kernel_rfl) (by kernel_rfl) (fun _ _ _ h => h) (Or.inl ⟨by rfl, ?_⟩) (by assumption) ?_
  rotate_left 1
  · intro wz hSw
    first | (go_simp; done) | (go_simp; with_reducible rfl)
  simp only [List.set_cons_zero, List.set_cons_succ]
  refine takeL_at (i := 15) (n := 20) (v := ?_) rfl rfl (by kernel_rfl) (by kernel_rfl) (by decide) (by kernel_rfl) (by kernel_rfl) (by kernel_rfl) (fun _ _ _ h => h) (Or.inl ⟨by rfl, ?_⟩) (by assumption) ?_
  rotate_left 1
  · intro wz hSw
    first | (go_simp; done) | (go_simp; with_reducible rfl)
  simp only [List.set_cons_zero, List.set_cons_succ]
  refine wpAnyL_one (i := 16) (by kernel_rfl) rfl (fun K' hK' => ?_)
  go_simp
  refine hK'.out _ _ (fun h => absurd rfl h) ?_
  clear hK' K'
  refine wpAnyL_done (by kernel_rfl) ?_ _
  refine NoPanic.normal ?_
  have H5 : Hid (∃ w5, w4.setCell ⟨A.R, 0, none⟩ (.slice ad4 (runs.length + 1) c4) = w5) := ⟨_, rfl⟩
  obtain ⟨w5, h5⟩ := H5.out
  rw [h5] at H4
  rw [h5]
  have c5 := H4.out.1.own.2.2.2.1
  have HJ : Hid (∀ k, k < l.length → w5.cell? ⟨A.J, k * 8 + 6, none⟩ = some (.int .i64 (-1))) := by
    intro k hk
    obtain ⟨e, he⟩ := at_lt H4.out.1.ln.1 hk
    have h6 := (H4.out.1.job he).2.2.2.2.2.2.1
    have hw := H4.out.2.2.wt (nac e) (List.mem_of_getElem? (nrm_at he))
    change e.wt = -1 at hw
    rw [hw] at h6
    exact h6
  clear hrun s1 l1 s4 f4 l4 hS0 h5 H5
  have hfew : l.length ≤ 100 := HW.out.2
  go_wp2_with fail
  go_loopw [26] (fun i wr => ∃ k : Nat, k ≤ l.length ∧ i = .int .i64 k ∧ wr = w5) (fun i _ => l.length - (intOf i).toNat)
  case atStart => exact ⟨0, Nat.zero_le _, rfl, rfl⟩
  case round =>
    obtain ⟨k, hk, rfl, rfl⟩ := hrel
    by_cases hlt : k < l.length
    · have j6 := HJ.out k hlt
      have hki : (k : Int) < (l.length : Int) := by omega
      go_wp2_with fail
      exact ⟨⟨k + 1, by omega, by simp, by first | rfl | trivial⟩, by simp [intOf]; omega⟩
    · have hke : k = l.length := by omega
      subst hke
      go_wp2_with fail
      go_end0
      exact ⟨rfl, f, H4.out.2.1⟩
end Go.Proofs.Ytcmoehednkaehah
