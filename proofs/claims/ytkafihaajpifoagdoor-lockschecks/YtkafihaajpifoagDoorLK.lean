import Derived.Test.YtkafihaajpifoagDoorLG
namespace Go.Proofs.YtkafihaajpifoagDoor
open Go.ChangeShapes Go.WideShapes Go.ChangeAt Go.RowKit

theorem row_new {α : Type} {f : α → List Value} (w : World) (l : List α) (n : Nat) (cs : Array Value) (t : TypeId) (hn : n = l.length) (hc : cs = (l.flatMap f).toArray) : RowSl f (w.alloc (.cells cs t)) l (.slice (some ⟨w.heap.size, 0, none⟩) n n) := by
  subst hn hc
  refine ⟨_, _, rfl, (fun e => by cases e), Nat.le_refl _, .inr ⟨w.heap.size, 0, rfl, fun q u hq => ?_⟩⟩
  rw [Nat.zero_add]
  exact (cells_of (heap_alloc_new _ _)).1 q u hq

theorem row_at {α : Type} {f : α → List Value} (w : World) (g : Nat) (l : List α) (n : Nat) (cs : Array Value) (t : TypeId) (hg : w.heap.size = g) (hn : n = l.length) (hc : cs = (l.flatMap f).toArray) : RowSl f (w.alloc (.cells cs t)) l (.slice (some ⟨g, 0, none⟩) n n) := by
  subst hg
  exact row_new w l n cs t hn hc

set_option maxRecDepth 20000 in
set_option maxHeartbeats 4000000 in
theorem SameN_any (w : World) (l : List Int) (v v' : Value) (hl : l.length ≤ 4194304) (h : RowSl nuV w l v) (h' : RowSl nuV w l v') :
    Calls Tryd.prog 14 #[v, v'] w fun r w' => r = .returned (.bool true) ∧ Below w.heap.size w w' := by
  obtain ⟨ad, c, rfl, -, -, hc⟩ := h
  obtain ⟨ad', c', rfl, -, -, hc'⟩ := h'
  have HR : Hid (_ ∧ _) := ⟨hc, hc'⟩
  clear hc hc'
  go_enter Tryd.func14, Tryd.ntmps14
  go_wp2_with fail
  go_loopw [13] (fun x wr => ∃ j : Nat, j ≤ l.length ∧ x = .int .i64 j ∧ Below w.heap.size w wr) (fun x _ => l.length - (intOf x).toNat)
  case atStart => exact ⟨0, Nat.zero_le _, rfl, Below.refl _ _⟩
  case round =>
    obtain ⟨j, hj, rfl, hb⟩ := hrel
    have HB : Hid (Below w.heap.size w wr) := hb
    by_cases hlt : j < l.length
    · obtain ⟨x, hx, -⟩ := drop_at hlt
      rcases HR.out.1 with h | ⟨b1, o1, rfl, hrow1⟩
      · rw [h] at hlt; simp at hlt
      rcases HR.out.2 with h | ⟨b2, o2, rfl, hrow2⟩
      · rw [h] at hlt; simp at hlt
      have c0 := nu_at (fun q u hq => below_cell hb (hrow1 q u hq)) hx
      have d0 := nu_at (fun q u hq => below_cell hb (hrow2 q u hq)) hx
      clear hrow1 hrow2 hb hx
      go_wp2_with fail
      go_quiet (fail)
      go_wp2_with fail
      go_roundw
      case rel => exact ⟨j + 1, by omega, by go_num, below_seq HB.out (below_drewN' (n := nq))⟩
      case measure => simp [intOf]; omega
    · have hje : j = l.length := by omega
      subst hje
      go_wp2_with fail
      go_ret
      exact ⟨rfl, hb⟩

set_option maxRecDepth 20000 in
set_option maxHeartbeats 4000000 in
theorem SameA_any (w : World) (l : List Ac) (v v' : Value) (hl : l.length ≤ 9000000000000000000) (h : RowSl Ac.vals w l v) (h' : RowSl Ac.vals w l v') :
    Calls Tryd.prog 35 #[v, v'] w fun r w' => r = .returned (.bool true) ∧ Below w.heap.size w w' := by
  obtain ⟨ad, c, rfl, -, -, hc⟩ := h
  obtain ⟨ad', c', rfl, -, -, hc'⟩ := h'
  have HR : Hid (_ ∧ _) := ⟨hc, hc'⟩
  clear hc hc'
  go_enter Tryd.func35, Tryd.ntmps35
  go_wp2_with fail
  go_loopw [13] (fun x wr => ∃ j : Nat, j ≤ l.length ∧ x = .int .i64 j ∧ Below w.heap.size w wr) (fun x _ => l.length - (intOf x).toNat)
  case atStart => exact ⟨0, Nat.zero_le _, rfl, Below.refl _ _⟩
  case round =>
    obtain ⟨j, hj, rfl, hb⟩ := hrel
    have HB : Hid (Below w.heap.size w wr) := hb
    by_cases hlt : j < l.length
    · obtain ⟨x, hx, -⟩ := drop_at hlt
      rcases HR.out.1 with h | ⟨b1, o1, rfl, hrow1⟩
      · rw [h] at hlt; simp at hlt
      rcases HR.out.2 with h | ⟨b2, o2, rfl, hrow2⟩
      · rw [h] at hlt; simp at hlt
      obtain ⟨c0, c1⟩ := ac_at (fun q u hq => below_cell hb (hrow1 q u hq)) hx
      obtain ⟨d0, d1⟩ := ac_at (fun q u hq => below_cell hb (hrow2 q u hq)) hx
      have hji : (j : Int) < (l.length : Int) := by omega
      clear hrow1 hrow2 hb hx
      obtain ⟨xd, xn⟩ := x
      dsimp only at c0 c1 d0 d1
      go_wp2_with fail
      go_quiet (fail)
      go_wp2_with fail
      go_roundw
      case rel => exact ⟨j + 1, by omega, by go_num, below_seq HB.out (below_drewN' (n := nq))⟩
      case measure => simp [intOf]; omega
    · have hje : j = l.length := by omega
      subst hje
      go_wp2_with fail
      go_ret
      exact ⟨rfl, hb⟩

def pairL (v0 v1 : Value) : List Lj := [⟨0, 1, [⟨1, 1⟩, ⟨2, 0⟩, ⟨1, 3⟩, ⟨3, 0⟩], v0⟩, ⟨2, 2, [⟨2, 0⟩, ⟨1, 1⟩, ⟨3, 0⟩], v1⟩]

set_option maxRecDepth 20000 in
theorem pair_any (w : World) : Calls Tryd.prog 12 #[] w fun r w' => ∃ v v0 v1, r = .returned v ∧ LkSl w' (pairL v0 v1) v ∧ Below w.heap.size w w' := by
  go_enter Tryd.func12, Tryd.ntmps12
  go_wp2_with fail
  go_ret
  have e1 : (w.alloc (.cells #[.int .i64 1, .int .i64 1, .int .i64 2, .int .i64 0, .int .i64 1, .int .i64 3, .int .i64 3, .int .i64 0] 48)).heap.size = w.heap.size + 1 := by simp
  have e2 : ((w.alloc (.cells #[.int .i64 1, .int .i64 1, .int .i64 2, .int .i64 0, .int .i64 1, .int .i64 3, .int .i64 3, .int .i64 0] 48)).alloc (.cells #[.int .i64 2, .int .i64 0, .int .i64 1, .int .i64 1, .int .i64 3, .int .i64 0] 48)).heap.size = w.heap.size + 1 + 1 := by simp
  refine ⟨_, .slice (some ⟨w.heap.size, 0, none⟩) 4 4, .slice (some ⟨w.heap.size + 1, 0, none⟩) 3 3, rfl, ⟨row_at _ _ (pairL _ _) 2 _ 44 e2 rfl rfl, fun x hx => ?_⟩, below_seq (below_seq (below_new _ _) (below_new _ _)) (below_new _ _)⟩
  simp only [pairL, List.mem_cons, List.not_mem_nil, or_false] at hx
  rcases hx with rfl | rfl
  · exact ((row_at (f := Ac.vals) w _ [⟨1, 1⟩, ⟨2, 0⟩, ⟨1, 3⟩, ⟨3, 0⟩] 4 _ 48 rfl rfl rfl).below (below_new _ _)).below (below_new _ _)
  · exact (row_at (f := Ac.vals) _ _ [⟨2, 0⟩, ⟨1, 1⟩, ⟨3, 0⟩] 3 _ 48 e1 rfl rfl).below (below_new _ _)
end Go.Proofs.YtkafihaajpifoagDoor
