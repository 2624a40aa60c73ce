import Derived.Test.YtfffpemgfddehaaDoorCheckP
namespace Go.Proofs.YtfffpemgfddehaaDoor
open Go.ChangeShapes Go.WideShapes Go.ChangeAt Go.RowKit

def ex0 : Ex := .mk 0 0 []
/-- The law's own body. -/
def plainT : List St := [.mk 4 3 ex0 0 ex0 ex0 [.mk 1 0 (.mk 5 0 [.mk 2 0 [], .mk 3 0 []]) 0 ex0 ex0 [] []] [], .mk 2 1 (.mk 7 0 [.mk 2 0 [], .mk 1 2 []]) 0 ex0 ex0 [] []]

theorem blk_cell {w : World} {g j : Nat} {cs : Array Value} {t : TypeId} {fr : Nat × Nat} {u : Value} (h : w.heap[g]? = some (.cells cs t fr)) (hj : cs[j]? = some u) : w.cell? ⟨g, j, none⟩ = some u := by
  unfold World.cell?
  rw [h]
  simpa using hj

theorem leaf_in (p : Nat → Prop) (w : World) (k n : Int) : (Ex.mk k n []).InP p w (.agg #[.int .i64 k, .int .i64 n, .slice none 0 0]) := by
  unfold Ex.InP
  exact ⟨none, 0, rfl, .inl rfl⟩

theorem two_in {p : Nat → Prop} {w : World} {g : Nat} {k n k1 n1 k2 n2 : Int} {t : TypeId} {fr : Nat × Nat} (hp : p g) (h : w.heap[g]? = some (.cells #[.int .i64 k1, .int .i64 n1, .slice none 0 0, .int .i64 k2, .int .i64 n2, .slice none 0 0] t fr)) :
    (Ex.mk k n [.mk k1 n1 [], .mk k2 n2 []]).InP p w (.agg #[.int .i64 k, .int .i64 n, .slice (some ⟨g, 0, none⟩) 2 2]) := by
  unfold Ex.InP
  refine ⟨_, 2, rfl, .inr ⟨g, 0, rfl, hp, ?_⟩⟩
  unfold Ex.RowP
  refine ⟨⟨_, _, _, blk_cell h rfl, blk_cell h rfl, blk_cell h rfl, leaf_in _ _ _ _⟩, ?_⟩
  unfold Ex.RowP
  refine ⟨⟨_, _, _, blk_cell h rfl, blk_cell h rfl, blk_cell h rfl, leaf_in _ _ _ _⟩, ?_⟩
  unfold Ex.RowP
  trivial

theorem plain_in {p : Nat → Prop} {W : World} {g1 g2 g3 g4 : Nat} (hp : p g1 ∧ p g2 ∧ p g3 ∧ p g4)
    (h1 : W.heap[g1]? = some (.cells #[.int .i64 2, .int .i64 0, .slice none 0 0, .int .i64 3, .int .i64 0, .slice none 0 0] 30 (0, 0)))
    (h2 : W.heap[g2]? = some (.cells #[.int .i64 1, .int .i64 0, .int .i64 5, .int .i64 0, .slice (some ⟨g1, 0, none⟩) 2 2, .int .i64 0, .int .i64 0, .int .i64 0, .slice none 0 0, .int .i64 0, .int .i64 0, .slice none 0 0, .slice none 0 0, .slice none 0 0] 34 (0, 0)))
    (h3 : W.heap[g3]? = some (.cells #[.int .i64 2, .int .i64 0, .slice none 0 0, .int .i64 1, .int .i64 2, .slice none 0 0] 30 (0, 0)))
    (h4 : W.heap[g4]? = some (.cells #[.int .i64 4, .int .i64 3, .int .i64 0, .int .i64 0, .slice none 0 0, .int .i64 0, .int .i64 0, .int .i64 0, .slice none 0 0, .int .i64 0, .int .i64 0, .slice none 0 0, .slice (some ⟨g2, 0, none⟩) 1 1, .slice none 0 0,
      .int .i64 2, .int .i64 1, .int .i64 7, .int .i64 0, .slice (some ⟨g3, 0, none⟩) 2 2, .int .i64 0, .int .i64 0, .int .i64 0, .slice none 0 0, .int .i64 0, .int .i64 0, .slice none 0 0, .slice none 0 0, .slice none 0 0] 34 (0, 0))) :
    St.SlQ p W plainT (.slice (some ⟨g4, 0, none⟩) 2 2) [g4, g2] := by
  refine ⟨_, 2, rfl, .inr ⟨by simp [plainT], g4, [g2], rfl, ⟨hp.2.2.2, _, h4⟩, rfl, ?_⟩⟩
  unfold plainT St.RowQ
  refine ⟨[g2], [], rfl, ⟨fun i => ([.int .i64 4, .int .i64 3, .int .i64 0, .int .i64 0, .slice none 0 0, .int .i64 0, .int .i64 0, .int .i64 0, .slice none 0 0, .int .i64 0, .int .i64 0, .slice none 0 0, .slice (some ⟨g2, 0, none⟩) 1 1, .slice none 0 0] : List Value).getD i undef, fun j hj => ?_, ?_⟩, ?_⟩
  · match j, hj with
    | 0, _ | 1, _ | 2, _ | 3, _ | 4, _ | 5, _ | 6, _ | 7, _ | 8, _ | 9, _ | 10, _ | 11, _ | 12, _ | 13, _ => exact blk_cell h4 rfl
  · unfold St.InQ
    refine ⟨_, _, _, _, _, _, _, _, _, _, _, rfl, leaf_in _ _ _ _, leaf_in _ _ _ _, leaf_in _ _ _ _, [g2], [], rfl, ⟨_, 1, rfl, .inr ⟨by simp, g2, [], rfl, ⟨hp.2.1, _, h2⟩, rfl, ?_⟩⟩, ⟨none, 0, rfl, .inl ⟨rfl, rfl⟩⟩⟩
    unfold St.RowQ
    refine ⟨[], [], rfl, ⟨fun i => ([.int .i64 1, .int .i64 0, .int .i64 5, .int .i64 0, .slice (some ⟨g1, 0, none⟩) 2 2, .int .i64 0, .int .i64 0, .int .i64 0, .slice none 0 0, .int .i64 0, .int .i64 0, .slice none 0 0, .slice none 0 0, .slice none 0 0] : List Value).getD i undef, fun j hj => ?_, ?_⟩, ?_⟩
    · match j, hj with
      | 0, _ | 1, _ | 2, _ | 3, _ | 4, _ | 5, _ | 6, _ | 7, _ | 8, _ | 9, _ | 10, _ | 11, _ | 12, _ | 13, _ => exact blk_cell h2 rfl
    · unfold St.InQ
      exact ⟨_, _, _, _, _, _, _, _, _, _, _, rfl, two_in hp.1 h1, leaf_in _ _ _ _, leaf_in _ _ _ _, [], [], rfl, ⟨none, 0, rfl, .inl ⟨rfl, rfl⟩⟩, ⟨none, 0, rfl, .inl ⟨rfl, rfl⟩⟩⟩
    · unfold St.RowQ
      rfl
  · unfold St.RowQ
    refine ⟨[], [], rfl, ⟨fun i => ([.int .i64 2, .int .i64 1, .int .i64 7, .int .i64 0, .slice (some ⟨g3, 0, none⟩) 2 2, .int .i64 0, .int .i64 0, .int .i64 0, .slice none 0 0, .int .i64 0, .int .i64 0, .slice none 0 0, .slice none 0 0, .slice none 0 0] : List Value).getD i undef, fun j hj => ?_, ?_⟩, ?_⟩
    · match j, hj with
      | 0, _ | 1, _ | 2, _ | 3, _ | 4, _ | 5, _ | 6, _ | 7, _ | 8, _ | 9, _ | 10, _ | 11, _ | 12, _ | 13, _ => exact blk_cell h4 rfl
    · unfold St.InQ
      exact ⟨_, _, _, _, _, _, _, _, _, _, _, rfl, two_in hp.2.2.1 h3, leaf_in _ _ _ _, leaf_in _ _ _ _, [], [], rfl, ⟨none, 0, rfl, .inl ⟨rfl, rfl⟩⟩, ⟨none, 0, rfl, .inl ⟨rfl, rfl⟩⟩⟩
    · unfold St.RowQ
      rfl

theorem plain_heap {w : World} {o0 o1 o2 o3 o4 : Obj} : (((((w.alloc o0).alloc o1).alloc o2).alloc o3).alloc o4).heap[w.heap.size + 1]? = some o1 ∧ (((((w.alloc o0).alloc o1).alloc o2).alloc o3).alloc o4).heap[w.heap.size + 1 + 1]? = some o2 ∧
    (((((w.alloc o0).alloc o1).alloc o2).alloc o3).alloc o4).heap[w.heap.size + 1 + 1 + 1]? = some o3 ∧ (((((w.alloc o0).alloc o1).alloc o2).alloc o3).alloc o4).heap[w.heap.size + 1 + 1 + 1 + 1]? = some o4 := by
  have n1 := heap_alloc_new (w.alloc o0) o1
  have n2 := heap_alloc_new ((w.alloc o0).alloc o1) o2
  have n3 := heap_alloc_new (((w.alloc o0).alloc o1).alloc o2) o3
  have n4 := heap_alloc_new ((((w.alloc o0).alloc o1).alloc o2).alloc o3) o4
  have z1 : (w.alloc o0).heap.size = w.heap.size + 1 := by simp
  have z2 : ((w.alloc o0).alloc o1).heap.size = w.heap.size + 1 + 1 := by simp
  have z3 : (((w.alloc o0).alloc o1).alloc o2).heap.size = w.heap.size + 1 + 1 + 1 := by simp
  have z4 : ((((w.alloc o0).alloc o1).alloc o2).alloc o3).heap.size = w.heap.size + 1 + 1 + 1 + 1 := by simp
  have z5 : (((w.alloc o0).alloc o1).alloc o2).heap.size = w.heap.size + 1 + 1 + 1 := by simp
  rw [z1] at n1
  rw [z2] at n2
  rw [z3] at n3
  rw [z4] at n4
  refine ⟨?_, ?_, ?_, n4⟩
  · rw [Below.heap_alloc _ _ _ (by omega), Below.heap_alloc _ _ _ (by omega), Below.heap_alloc _ _ _ (by omega)]; exact n1
  · rw [Below.heap_alloc _ _ _ (by omega), Below.heap_alloc _ _ _ (by omega)]; exact n2
  · rw [Below.heap_alloc _ _ _ (by omega)]; exact n3

set_option maxRecDepth 20000 in
set_option maxHeartbeats 2000000 in
theorem plain_any (w : World) : Calls Tryd.prog 5 #[] w fun r w' => ∃ v bl, r = .returned v ∧ St.SlQ (fun b => w.heap.size ≤ b) w' plainT v bl ∧ bl.Nodup ∧ Below w.heap.size w w' := by
  go_enter Tryd.func5, Tryd.ntmps5
  go_wp2_with fail
  go_ret
  obtain ⟨h1, h2, h3, h4⟩ := @plain_heap w _ _ _ _ _
  exact ⟨_, _, rfl, plain_in ⟨by omega, by omega, by omega, by omega⟩ h1 h2 h3 h4, (by clear h1 h2 h3 h4; simp; omega), (((((Below.refl _ w).alloc (Nat.le_refl _) _).alloc (by simp) _).alloc (by simp; omega) _).alloc (by simp; omega) _).alloc (by simp; omega) _⟩
end Go.Proofs.YtfffpemgfddehaaDoor
