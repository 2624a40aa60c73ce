import Derived.Test.YtcmoehednkaehadDoorGLend
namespace Go.Proofs.YtcmoehednkaehadDoor
open Go.ChangeShapes Go.WideShapes Go.ChangeAt Go.RowKit

set_option maxRecDepth 20000 in
set_option maxHeartbeats 4000000 in
/-- Still, of a list that was lent and stands as it did. -/
theorem Still_any (w : World) (l : List In) (m : In) (v v' : Value) (hl : l.length ≤ 100000) (h : LentI w l m v) (h' : InSl w l v') :
    Calls Tryd.prog 14 #[v, v', .agg #[.int .i64 m.op, .int .i64 m.a, .int .i64 m.b]] w fun r w' => r = .returned (.bool true) ∧ Below w.heap.size w w' := by
  obtain ⟨b, o, cap, rfl, hcap, hrow, hmark⟩ := h
  obtain ⟨ad', c', rfl, hc'⟩ := h'
  obtain ⟨mo, ma, mb⟩ := m
  have HR : Hid (_ ∧ _ ∧ _) := ⟨hrow, hmark, hc'⟩
  clear hrow hmark hc'
  go_enter Tryd.func14, Tryd.ntmps14
  go_wp2_with fail
  go_loopw [17] (fun x wr => ∃ j : Nat, j ≤ l.length + 3 ∧ x = .int .i64 j ∧ Below (w.heap.size + 1) (w.alloc (.cells #[.int .i64 mo, .int .i64 ma, .int .i64 mb] 27)) wr) (fun x _ => l.length + 3 - (intOf x).toNat)
  case atStart => exact ⟨0, Nat.zero_le _, rfl, Below.refl _ _⟩
  case round =>
    obtain ⟨j, hj, rfl, hb⟩ := hrel
    have hbw : Below w.heap.size w wr := (below_new w (.cells #[.int .i64 mo, .int .i64 ma, .int .i64 mb] 27)).trans (hb.mono (by omega))
    have m0 : wr.cell? ⟨w.heap.size, 0, none⟩ = some (.int .i64 mo) := (hb.cell (by show w.heap.size < w.heap.size + 1; omega)).trans (by go_simp)
    have m1 : wr.cell? ⟨w.heap.size, 1, none⟩ = some (.int .i64 ma) := (hb.cell (by show w.heap.size < w.heap.size + 1; omega)).trans (by go_simp)
    have m2 : wr.cell? ⟨w.heap.size, 2, none⟩ = some (.int .i64 mb) := (hb.cell (by show w.heap.size < w.heap.size + 1; omega)).trans (by go_simp)
    have lw : w.heap.size < wr.heap.size := World.block_lt_of_cell? _ _ m0
    have HB : Hid (Below (w.heap.size + 1) (w.alloc (.cells #[.int .i64 mo, .int .i64 ma, .int .i64 mb] 27)) wr) := hb
    by_cases hlt : j < l.length
    · have c := HR.out.1 j hlt
      have c0 := below_cell hbw c.1
      have c1 := below_cell hbw c.2.1
      have c2 := below_cell hbw c.2.2
      rcases HR.out.2.2 with h | ⟨b', o', had', hrow'⟩
      · rw [h] at hlt; simp at hlt
      subst had'
      have d := hrow' j hlt
      have d0 := below_cell hbw d.1
      have d1 := below_cell hbw d.2.1
      have d2 := below_cell hbw d.2.2
      have lb' : b' < wr.heap.size := World.block_lt_of_cell? _ _ d0
      have f1 : decide ((j : Int) < (l.length : Int)) = true := by simp; omega
      have f1' : decide (j < l.length) = true := by simp; omega
      have f2 : decide ((l.length : Int) ≤ (j : Int)) = false := by simp; omega
      have f2' : decide (l.length ≤ j) = false := by simp; omega
      clear hrow' c d hb hbw
      generalize l.getD j in0 = x at *
      obtain ⟨xo, xa, xb⟩ := x
      dsimp only at c0 c1 c2 d0 d1 d2
      go_wp2_with fail
      go_quiet (fail)
      go_wp2_with fail
      go_roundw
      case rel => exact ⟨j + 1, by omega, by go_num, (HB.out.alloc (by omega) _).trans ((below_drewN').mono (by simp; omega))⟩
      case measure => simp [intOf]; omega
    · by_cases hlt2 : j < l.length + 3
      · have c := HR.out.2.1 j (by omega) hlt2
        have c0 := below_cell hbw c.1
        have c1 := below_cell hbw c.2.1
        have c2 := below_cell hbw c.2.2
        have f1 : decide ((j : Int) < (l.length : Int)) = false := by simp; omega
        have f1' : decide (j < l.length) = false := by simp; omega
        have f2 : decide ((l.length : Int) ≤ (j : Int)) = true := by simp; omega
        have f2' : decide (l.length ≤ j) = true := by simp; omega
        clear c hb hbw
        go_wp2_with fail
        go_quiet (fail)
        go_wp2_with fail
        go_roundw
        case rel => exact ⟨j + 1, by omega, by go_num, (HB.out.alloc (by omega) _).trans ((below_drewN').mono (by simp; omega))⟩
        case measure => simp [intOf]; omega
      · have hje : j = l.length + 3 := by omega
        subst hje
        go_wp2_with fail
        go_ret
        exact ⟨rfl, hbw⟩
end Go.Proofs.YtcmoehednkaehadDoor
