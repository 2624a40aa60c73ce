import Derived.Test.YtkafihaajpifoafXR
namespace Go.Proofs.Ytkafihaajpifoaf
open Go.ChangeShapes Go.WideShapes Go.ChangeAt Go.RowKit

theorem row_new {α : Type} {f : α → List Value} (w : World) (l : List α) (n : Nat) (cs : Array Value) (t : TypeId) (hn : n = l.length) (hc : cs = (l.flatMap f).toArray) : RowSl f (w.alloc (.cells cs t)) l (.slice (some ⟨w.heap.size, 0, none⟩) n n) := by
  subst hn hc
  refine ⟨_, _, rfl, (fun e => by cases e), Nat.le_refl _, .inr ⟨w.heap.size, 0, rfl, fun q u hq => ?_⟩⟩
  rw [Nat.zero_add]
  exact (cells_of (heap_alloc_new _ _)).1 q u hq

set_option maxRecDepth 20000 in
set_option maxHeartbeats 4000000 in
theorem SameN_any (w : World) (l : List Int) (v v' : Value) (hl : l.length ≤ 4194304) (h : RowSl nuV w l v) (h' : RowSl nuV w l v') :
    Calls Try.prog 21 #[v, v'] w fun r w' => r = .returned (.bool true) ∧ Below w.heap.size w w' := by
  obtain ⟨ad, c, rfl, -, -, hc⟩ := h
  obtain ⟨ad', c', rfl, -, -, hc'⟩ := h'
  have HR : Hid (_ ∧ _) := ⟨hc, hc'⟩
  clear hc hc'
  go_enter Try.func21, Try.ntmps21
  go_wp2_with fail
  go_loopw [13] (fun x wr => ∃ j : Nat, j ≤ l.length ∧ x = .int .i64 j ∧ Below w.heap.size w wr) (fun x _ => l.length - (intOf x).toNat)
  case atStart => exact ⟨0, Nat.zero_le _, rfl, Below.refl _ _⟩
  case round =>
    obtain ⟨j, hj, rfl, hb⟩ := hrel
    have HB : Hid (Below w.heap.size w wr) := hb
    by_cases hlt : j < l.length
    · obtain ⟨x, hx, -⟩ := drop_at hlt
      rcases HR.out.1 with h | ⟨b1, o1, rfl, hrow1⟩
      · rw [h] at hlt; simp at hlt
      rcases HR.out.2 with h | ⟨b2, o2, rfl, hrow2⟩
      · rw [h] at hlt; simp at hlt
      have c0 := nu_at (fun q u hq => below_cell hb (hrow1 q u hq)) hx
      have d0 := nu_at (fun q u hq => below_cell hb (hrow2 q u hq)) hx
      clear hrow1 hrow2 hb hx
      go_wp2_with fail
      go_quiet (fail)
      go_wp2_with fail
      go_roundw
      case rel => exact ⟨j + 1, by omega, by go_num, below_seq HB.out (below_drewN' (n := nq))⟩
      case measure => simp [intOf]; omega
    · have hje : j = l.length := by omega
      subst hje
      go_wp2_with fail
      go_ret
      exact ⟨rfl, hb⟩

end Go.Proofs.Ytkafihaajpifoaf
