import Derived.Test.YtcmoehednkaehadDoorWT
namespace Go.Proofs.YtcmoehednkaehadDoor
open Go.ChangeShapes Go.WideShapes Go.ChangeAt Go.RowKit Go.Shelf

attribute [local go_sem] Oper.semAt_some

set_option maxRecDepth 100000 in
set_option maxHeartbeats 2000000 in
/-- Backwards through a slice. -/
theorem back1_in (n : Nat) (hn : 1 ≤ n) (lp Bs n₀ ic : Nat) (iad : Option Addr) (l : List In) (hl : l.length ≤ 2000) (J Jx : List (At l) → World → Prop)
    (hY : ∀ pre x W, J pre W → pre.length < l.length → YieldAt Fence.wide (n - 1) Tryd.prog lp (encB l x) W fun e W' => (e = .returned (.bool true) ∧ J (pre ++ [x]) W' ∧ KpB n₀ Bs (.slice iad l.length ic) W W') ∨ (e = .returned (.bool false) ∧ Jx (pre ++ [x]) W'))
    (W : World) (hBs : W.cell? ⟨Bs, 0, none⟩ = some (.slice iad l.length ic))
    (hc : l = [] ∨ ∃ b o, iad = some ⟨b, o, none⟩ ∧ b < n₀ ∧ ∀ j, j < l.length → W.cell? ⟨b, o + j * 3, none⟩ = some (.int .i64 (l.getD j in0).op) ∧ W.cell? ⟨b, o + j * 3 + 1, none⟩ = some (.int .i64 (l.getD j in0).a) ∧ W.cell? ⟨b, o + j * 3 + 2, none⟩ = some (.int .i64 (l.getD j in0).b)) (h0 : J [] W) :
    CallsIn Fence.wide n Tryd.prog 78 #[.func (.yield lp) #[] #[], .pointer (some ⟨Bs, 0, none⟩)] W fun e W' => (∃ v, e = .returned v) ∧
      ((∃ ys, (Dn l ys ∧ ys.length = l.length) ∧ J ys W') ∨ (∃ pre, (Dn l pre ∧ pre.length ≤ l.length) ∧ Jx pre W')) := by
  refine callsIn_of_wp Tryd.func78 rfl trivial ?_ rfl
  simp only [Tryd.ntmps78, List.size_toArray, List.length_cons, List.length_nil, Nat.reduceAdd, Nat.reduceSub, Array.replicate_succ, Array.replicate_zero, List.push_toArray, List.append_toArray, List.nil_append, List.cons_append]
  gi_wp2
  gi_loopw [3] (fun i wr => ∃ (m : Nat) (pre : List (At l)), i = .int .i64 ((m : Int) - 1) ∧ pre.length + m = l.length ∧ Dn l pre ∧ J pre wr ∧ KpB n₀ Bs (.slice iad l.length ic) W wr) (fun i _ => (intOf i + 1).toNat)
  case atStart => exact ⟨l.length, [], rfl, by simp, Dn.nil l, h0, KpB.refl _ _ _ _⟩
  case round =>
    obtain ⟨m, pre, rfl, hm, hd, hJs, hkp⟩ := hrel
    have hBr := hkp.2 hBs
    rcases m with _ | m
    · rw [show ((0 : Nat) : Int) - 1 = -1 from rfl]
      gi_wp2
      go_end0
      exact ⟨⟨_, rfl⟩, .inl ⟨pre, ⟨hd, by omega⟩, hJs⟩⟩
    · have em : ((m + 1 : Nat) : Int) - 1 = (m : Int) := by omega
      rw [em]
      have hml : m < l.length := by omega
      have hmi : (m : Int) < (l.length : Int) := by omega
      rcases hc with hc | ⟨b, o, rfl, hb, hc⟩
      · rw [hc] at hml; simp at hml
      obtain ⟨c0, c1, c2⟩ := hc m hml
      have d0 := (hkp.1.cell (p := ⟨b, o + m * 3, none⟩) hb).trans c0
      have d1 := (hkp.1.cell (p := ⟨b, o + m * 3 + 1, none⟩) hb).trans c1
      have d2 := (hkp.1.cell (p := ⟨b, o + m * 3 + 2, none⟩) hb).trans c2
      obtain ⟨fn, tmps, assign, body, hy, hR⟩ := hY pre ⟨m, hml⟩ wr hJs (by omega)
      unfold encB valAt In.val at hy
      dsimp only at hy
      rcases hx : l.getD m in0 with ⟨op, xa, xb⟩
      rw [hx] at hy d0 d1 d2
      dsimp only at hy d0 d1 d2
      clear c0 c1 c2
      gi_wp2
      refine hR.mono ?_
      rintro e W3 (⟨rfl, hJ3, hk3⟩ | ⟨rfl, hJx3⟩)
      · gi_wp2
        go_roundw
        case rel => exact ⟨m, _, rfl, by simp; omega, hd.snoc (by show m = _; omega), hJ3, hkp.trans hk3⟩
        case measure => simp [intOf]
      · gi_wp2
        refine bodyPost_ret (results_none rfl _ _ _) rfl ?_
        exact ⟨⟨_, rfl⟩, .inr ⟨_, ⟨hd.snoc (by show m = _; omega), by simp; omega⟩, hJx3⟩⟩

/-- slices.Backward. -/
theorem back_any (w : World) (iad : Option Addr) (n ic : Nat) : Calls Tryd.prog 41 #[.slice iad n ic] w fun r w' => r = .returned (.func (Fn.func 78) #[] #[.pointer (some ⟨w.heap.size, 0, none⟩)]) ∧ w' = w.alloc (.cells #[.slice iad n ic] 22) := by
  go_enter Tryd.func41, Tryd.ntmps41
  go_wp2_with fail
  go_ret
  exact ⟨rfl, rfl⟩

theorem back_stops (n : Nat) (hn : 1 ≤ n) (Bs n₀ ic : Nat) (iad : Option Addr) (l : List In) (hl : l.length ≤ 2000) (w : World) (hBw : Bs < w.heap.size)
    (hBs : w.cell? ⟨Bs, 0, none⟩ = some (.slice iad l.length ic))
    (hc : l = [] ∨ ∃ b o, iad = some ⟨b, o, none⟩ ∧ b < n₀ ∧ ∀ j, j < l.length → w.cell? ⟨b, o + j * 3, none⟩ = some (.int .i64 (l.getD j in0).op) ∧ w.cell? ⟨b, o + j * 3 + 1, none⟩ = some (.int .i64 (l.getD j in0).a) ∧ w.cell? ⟨b, o + j * 3 + 2, none⟩ = some (.int .i64 (l.getD j in0).b)) :
    SeqStopsK Fence.wide n Tryd.prog 78 #[.pointer (some ⟨Bs, 0, none⟩)] (encB l) (KpB n₀ Bs (.slice iad l.length ic)) (fun ys => Dn l ys ∧ ys.length = l.length) (fun pre => Dn l pre ∧ pre.length ≤ l.length) l.length w := fun lp J Jx W hW _ _ hY h0 => by
  refine back1_in n hn lp Bs n₀ ic iad l hl J Jx hY W ((hW.cell (p := ⟨Bs, 0, none⟩) hBw).trans hBs) ?_ h0
  rcases hc with hc | ⟨b, o, e, hb, hc⟩
  · exact .inl hc
  · exact .inr ⟨b, o, e, hb, fun j hj => ⟨below_cell hW (hc j hj).1, below_cell hW (hc j hj).2.1, below_cell hW (hc j hj).2.2⟩⟩

end Go.Proofs.YtcmoehednkaehadDoor
