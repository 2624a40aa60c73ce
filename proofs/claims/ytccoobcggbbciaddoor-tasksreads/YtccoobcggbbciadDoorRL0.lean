import Derived.Test.YtccoobcggbbciadDoorTQ
namespace Go.Proofs.YtccoobcggbbciadDoor
open Go.ChangeShapes Go.WideShapes Go.ChangeAt Go.RowKit

set_option maxRecDepth 20000 in
set_option maxHeartbeats 4000000 in
theorem SameT_any (w : World) (l : List Ta) (v v' : Value) (hl : l.length ≤ 100000) (h : RowSl Ta.vals w l v) (h' : RowSl Ta.vals w l v') :
    Calls Tryd.prog 27 #[v, v'] w fun r w' => r = .returned (.bool true) ∧ Below w.heap.size w w' := by
  obtain ⟨ad, c, rfl, -, -, hc⟩ := h
  obtain ⟨ad', c', rfl, -, -, hc'⟩ := h'
  have HR : Hid (_ ∧ _) := ⟨hc, hc'⟩
  clear hc hc'
  go_enter Tryd.func27, Tryd.ntmps27
  go_wp2_with fail
  go_loopw [13] (fun x wr => ∃ j : Nat, j ≤ l.length ∧ x = .int .i64 j ∧ Below w.heap.size w wr) (fun x _ => l.length - (intOf x).toNat)
  case atStart => exact ⟨0, Nat.zero_le _, rfl, Below.refl _ _⟩
  case round =>
    obtain ⟨j, hj, rfl, hb⟩ := hrel
    have HB : Hid (Below w.heap.size w wr) := hb
    by_cases hlt : j < l.length
    · obtain ⟨x, hx, -⟩ := drop_at hlt
      rcases HR.out.1 with h | ⟨b1, o1, rfl, hrow1⟩
      · rw [h] at hlt; simp at hlt
      rcases HR.out.2 with h | ⟨b2, o2, rfl, hrow2⟩
      · rw [h] at hlt; simp at hlt
      have c := ta_at (fun q u hq => below_cell hb (hrow1 q u hq)) hx
      have d := ta_at (fun q u hq => below_cell hb (hrow2 q u hq)) hx
      obtain ⟨c0, c1, c2, c3, c4, c5, c6⟩ := c
      obtain ⟨d0, d1, d2, d3, d4, d5, d6⟩ := d
      have lb1 : b1 < wr.heap.size := World.block_lt_of_cell? _ _ c0
      have lb2 : b2 < wr.heap.size := World.block_lt_of_cell? _ _ d0
      clear hrow1 hrow2 hb hx
      obtain ⟨xnm, xc, xt, xd, xj, xo, xp⟩ := x
      dsimp only at c0 c1 c2 c3 c4 c5 c6 d0 d1 d2 d3 d4 d5 d6
      go_wp2_with fail
      go_quiet (fail)
      go_wp2_with fail
      go_roundw
      case rel => exact ⟨j + 1, by omega, by go_num, below_seq HB.out (below_drewN' (n := nq))⟩
      case measure => simp [intOf]; omega
    · have hje : j = l.length := by omega
      subst hje
      go_wp2_with fail
      go_ret
      exact ⟨rfl, hb⟩
end Go.Proofs.YtccoobcggbbciadDoor
