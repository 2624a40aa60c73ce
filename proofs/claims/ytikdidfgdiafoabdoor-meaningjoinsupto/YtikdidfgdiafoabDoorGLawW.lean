import Derived.Test.YtikdidfgdiafoabDoorGCheckP
import Derived.Test.YtikdidfgdiafoabDoorGVal2
import Derived.Test.YtikdidfgdiafoabDoorGSame
import Derived.Deep.DeepCutAuto
import Derived.Deep.CutRange
namespace Go.Proofs.YtikdidfgdiafoabDoor
open Go.ChangeShapes Go.WideShapes Go.ChangeAt Go.RowKit

def ex0 : Ex := .mk 0 0 []
/-- The law's own body. -/
def plainT : List St := [.mk 4 3 ex0 0 ex0 ex0 [.mk 1 0 (.mk 5 0 [.mk 2 0 [], .mk 3 0 []]) 0 ex0 ex0 [] []] [], .mk 2 1 (.mk 7 0 [.mk 2 0 [], .mk 1 2 []]) 0 ex0 ex0 [] []]

theorem blk_cell {w : World} {g j : Nat} {cs : Array Value} {t : TypeId} {fr : Nat × Nat} {u : Value} (h : w.heap[g]? = some (.cells cs t fr)) (hj : cs[j]? = some u) : w.cell? ⟨g, j, none⟩ = some u := by
  unfold World.cell?
  rw [h]
  simpa using hj

theorem leaf_in (p : Nat → Prop) (w : World) (k n : Int) : (Ex.mk k n []).InP p w (.agg #[.int .i64 k, .int .i64 n, .slice none 0 0]) := by
  unfold Ex.InP
  exact ⟨none, 0, rfl, .inl rfl⟩

theorem two_in {p : Nat → Prop} {w : World} {g : Nat} {k n k1 n1 k2 n2 : Int} {t : TypeId} {fr : Nat × Nat} (hp : p g) (h : w.heap[g]? = some (.cells #[.int .i64 k1, .int .i64 n1, .slice none 0 0, .int .i64 k2, .int .i64 n2, .slice none 0 0] t fr)) :
    (Ex.mk k n [.mk k1 n1 [], .mk k2 n2 []]).InP p w (.agg #[.int .i64 k, .int .i64 n, .slice (some ⟨g, 0, none⟩) 2 2]) := by
  unfold Ex.InP
  refine ⟨_, 2, rfl, .inr ⟨g, 0, rfl, hp, ?_⟩⟩
  unfold Ex.RowP
  refine ⟨⟨_, _, _, blk_cell h rfl, blk_cell h rfl, blk_cell h rfl, leaf_in _ _ _ _⟩, ?_⟩
  unfold Ex.RowP
  refine ⟨⟨_, _, _, blk_cell h rfl, blk_cell h rfl, blk_cell h rfl, leaf_in _ _ _ _⟩, ?_⟩
  unfold Ex.RowP
  trivial

theorem plain_in {p : Nat → Prop} {W : World} {g1 g2 g3 g4 : Nat} (hp : p g1 ∧ p g2 ∧ p g3 ∧ p g4)
    (h1 : W.heap[g1]? = some (.cells #[.int .i64 2, .int .i64 0, .slice none 0 0, .int .i64 3, .int .i64 0, .slice none 0 0] 57 (0, 0)))
    (h2 : W.heap[g2]? = some (.cells #[.int .i64 1, .int .i64 0, .int .i64 5, .int .i64 0, .slice (some ⟨g1, 0, none⟩) 2 2, .int .i64 0, .int .i64 0, .int .i64 0, .slice none 0 0, .int .i64 0, .int .i64 0, .slice none 0 0, .slice none 0 0, .slice none 0 0] 61 (0, 0)))
    (h3 : W.heap[g3]? = some (.cells #[.int .i64 2, .int .i64 0, .slice none 0 0, .int .i64 1, .int .i64 2, .slice none 0 0] 57 (0, 0)))
    (h4 : W.heap[g4]? = some (.cells #[.int .i64 4, .int .i64 3, .int .i64 0, .int .i64 0, .slice none 0 0, .int .i64 0, .int .i64 0, .int .i64 0, .slice none 0 0, .int .i64 0, .int .i64 0, .slice none 0 0, .slice (some ⟨g2, 0, none⟩) 1 1, .slice none 0 0,
      .int .i64 2, .int .i64 1, .int .i64 7, .int .i64 0, .slice (some ⟨g3, 0, none⟩) 2 2, .int .i64 0, .int .i64 0, .int .i64 0, .slice none 0 0, .int .i64 0, .int .i64 0, .slice none 0 0, .slice none 0 0, .slice none 0 0] 61 (0, 0))) :
    St.SlQ p W plainT (.slice (some ⟨g4, 0, none⟩) 2 2) [g4, g2] := by
  refine ⟨_, 2, rfl, .inr ⟨by simp [plainT], g4, [g2], rfl, ⟨hp.2.2.2, _, h4⟩, rfl, ?_⟩⟩
  unfold plainT St.RowQ
  refine ⟨[g2], [], rfl, ⟨fun i => ([.int .i64 4, .int .i64 3, .int .i64 0, .int .i64 0, .slice none 0 0, .int .i64 0, .int .i64 0, .int .i64 0, .slice none 0 0, .int .i64 0, .int .i64 0, .slice none 0 0, .slice (some ⟨g2, 0, none⟩) 1 1, .slice none 0 0] : List Value).getD i undef, fun j hj => ?_, ?_⟩, ?_⟩
  · match j, hj with
    | 0, _ | 1, _ | 2, _ | 3, _ | 4, _ | 5, _ | 6, _ | 7, _ | 8, _ | 9, _ | 10, _ | 11, _ | 12, _ | 13, _ => exact blk_cell h4 rfl
  · unfold St.InQ
    refine ⟨_, _, _, _, _, _, _, _, _, _, _, rfl, leaf_in _ _ _ _, leaf_in _ _ _ _, leaf_in _ _ _ _, [g2], [], rfl, ⟨_, 1, rfl, .inr ⟨by simp, g2, [], rfl, ⟨hp.2.1, _, h2⟩, rfl, ?_⟩⟩, ⟨none, 0, rfl, .inl ⟨rfl, rfl⟩⟩⟩
    unfold St.RowQ
    refine ⟨[], [], rfl, ⟨fun i => ([.int .i64 1, .int .i64 0, .int .i64 5, .int .i64 0, .slice (some ⟨g1, 0, none⟩) 2 2, .int .i64 0, .int .i64 0, .int .i64 0, .slice none 0 0, .int .i64 0, .int .i64 0, .slice none 0 0, .slice none 0 0, .slice none 0 0] : List Value).getD i undef, fun j hj => ?_, ?_⟩, ?_⟩
    · match j, hj with
      | 0, _ | 1, _ | 2, _ | 3, _ | 4, _ | 5, _ | 6, _ | 7, _ | 8, _ | 9, _ | 10, _ | 11, _ | 12, _ | 13, _ => exact blk_cell h2 rfl
    · unfold St.InQ
      exact ⟨_, _, _, _, _, _, _, _, _, _, _, rfl, two_in hp.1 h1, leaf_in _ _ _ _, leaf_in _ _ _ _, [], [], rfl, ⟨none, 0, rfl, .inl ⟨rfl, rfl⟩⟩, ⟨none, 0, rfl, .inl ⟨rfl, rfl⟩⟩⟩
    · unfold St.RowQ
      rfl
  · unfold St.RowQ
    refine ⟨[], [], rfl, ⟨fun i => ([.int .i64 2, .int .i64 1, .int .i64 7, .int .i64 0, .slice (some ⟨g3, 0, none⟩) 2 2, .int .i64 0, .int .i64 0, .int .i64 0, .slice none 0 0, .int .i64 0, .int .i64 0, .slice none 0 0, .slice none 0 0, .slice none 0 0] : List Value).getD i undef, fun j hj => ?_, ?_⟩, ?_⟩
    · match j, hj with
      | 0, _ | 1, _ | 2, _ | 3, _ | 4, _ | 5, _ | 6, _ | 7, _ | 8, _ | 9, _ | 10, _ | 11, _ | 12, _ | 13, _ => exact blk_cell h4 rfl
    · unfold St.InQ
      exact ⟨_, _, _, _, _, _, _, _, _, _, _, rfl, two_in hp.2.2.1 h3, leaf_in _ _ _ _, leaf_in _ _ _ _, [], [], rfl, ⟨none, 0, rfl, .inl ⟨rfl, rfl⟩⟩, ⟨none, 0, rfl, .inl ⟨rfl, rfl⟩⟩⟩
    · unfold St.RowQ
      rfl

theorem plain_heap {w : World} {o0 o1 o2 o3 o4 : Obj} : (((((w.alloc o0).alloc o1).alloc o2).alloc o3).alloc o4).heap[w.heap.size + 1]? = some o1 ∧ (((((w.alloc o0).alloc o1).alloc o2).alloc o3).alloc o4).heap[w.heap.size + 1 + 1]? = some o2 ∧
    (((((w.alloc o0).alloc o1).alloc o2).alloc o3).alloc o4).heap[w.heap.size + 1 + 1 + 1]? = some o3 ∧ (((((w.alloc o0).alloc o1).alloc o2).alloc o3).alloc o4).heap[w.heap.size + 1 + 1 + 1 + 1]? = some o4 := by
  have n1 := heap_alloc_new (w.alloc o0) o1
  have n2 := heap_alloc_new ((w.alloc o0).alloc o1) o2
  have n3 := heap_alloc_new (((w.alloc o0).alloc o1).alloc o2) o3
  have n4 := heap_alloc_new ((((w.alloc o0).alloc o1).alloc o2).alloc o3) o4
  have z1 : (w.alloc o0).heap.size = w.heap.size + 1 := by simp
  have z2 : ((w.alloc o0).alloc o1).heap.size = w.heap.size + 1 + 1 := by simp
  have z3 : (((w.alloc o0).alloc o1).alloc o2).heap.size = w.heap.size + 1 + 1 + 1 := by simp
  have z4 : ((((w.alloc o0).alloc o1).alloc o2).alloc o3).heap.size = w.heap.size + 1 + 1 + 1 + 1 := by simp
  have z5 : (((w.alloc o0).alloc o1).alloc o2).heap.size = w.heap.size + 1 + 1 + 1 := by simp
  rw [z1] at n1
  rw [z2] at n2
  rw [z3] at n3
  rw [z4] at n4
  refine ⟨?_, ?_, ?_, n4⟩
  · rw [Below.heap_alloc _ _ _ (by omega), Below.heap_alloc _ _ _ (by omega), Below.heap_alloc _ _ _ (by omega)]; exact n1
  · rw [Below.heap_alloc _ _ _ (by omega), Below.heap_alloc _ _ _ (by omega)]; exact n2
  · rw [Below.heap_alloc _ _ _ (by omega)]; exact n3

set_option maxRecDepth 20000 in
set_option maxHeartbeats 2000000 in
theorem plain_any (w : World) : Calls Tryd.prog 19 #[] w fun r w' => ∃ v bl, r = .returned v ∧ St.SlQ (fun b => w.heap.size ≤ b) w' plainT v bl ∧ bl.Nodup ∧ Below w.heap.size w w' := by
  go_enter Tryd.func19, Tryd.ntmps19
  go_wp2_with fail
  go_ret
  obtain ⟨h1, h2, h3, h4⟩ := @plain_heap w _ _ _ _ _
  exact ⟨_, _, rfl, plain_in ⟨by omega, by omega, by omega, by omega⟩ h1 h2 h3 h4, (by clear h1 h2 h3 h4; simp; omega), (((((Below.refl _ w).alloc (Nat.le_refl _) _).alloc (by simp) _).alloc (by simp; omega) _).alloc (by simp; omega) _).alloc (by simp; omega) _⟩
end Go.Proofs.YtikdidfgdiafoabDoor
namespace Go.Proofs.YtikdidfgdiafoabDoor
open Go.ChangeShapes Go.WideShapes Go.ChangeAt Go.RowKit

/-- A body of a kind that is none. -/
def eightT : List St := [.mk 8 0 ex0 0 ex0 ex0 [] []]

theorem eight_in (w : World) : St.SlQ (fun b => w.heap.size ≤ b) (w.alloc (.cells #[.int .i64 8, .int .i64 0, .int .i64 0, .int .i64 0, .slice none 0 0, .int .i64 0, .int .i64 0, .int .i64 0, .slice none 0 0, .int .i64 0, .int .i64 0, .slice none 0 0, .slice none 0 0, .slice none 0 0] 61)) eightT (.slice (some ⟨w.heap.size, 0, none⟩) 1 1) [w.heap.size] := by
  have h4 := heap_alloc_new w (.cells #[.int .i64 8, .int .i64 0, .int .i64 0, .int .i64 0, .slice none 0 0, .int .i64 0, .int .i64 0, .int .i64 0, .slice none 0 0, .int .i64 0, .int .i64 0, .slice none 0 0, .slice none 0 0, .slice none 0 0] 61)
  refine ⟨_, 1, rfl, .inr ⟨by simp [eightT], w.heap.size, [], rfl, ⟨Nat.le_refl _, _, h4⟩, rfl, ?_⟩⟩
  unfold eightT St.RowQ
  refine ⟨[], [], rfl, ⟨fun i => ([.int .i64 8, .int .i64 0, .int .i64 0, .int .i64 0, .slice none 0 0, .int .i64 0, .int .i64 0, .int .i64 0, .slice none 0 0, .int .i64 0, .int .i64 0, .slice none 0 0, .slice none 0 0, .slice none 0 0] : List Value).getD i undef, fun j hj => ?_, ?_⟩, ?_⟩
  · match j, hj with
    | 0, _ | 1, _ | 2, _ | 3, _ | 4, _ | 5, _ | 6, _ | 7, _ | 8, _ | 9, _ | 10, _ | 11, _ | 12, _ | 13, _ => exact blk_cell h4 rfl
  · unfold St.InQ
    exact ⟨_, _, _, _, _, _, _, _, _, _, _, rfl, leaf_in _ _ _ _, leaf_in _ _ _ _, leaf_in _ _ _ _, [], [], rfl, ⟨none, 0, rfl, .inl ⟨rfl, rfl⟩⟩, ⟨none, 0, rfl, .inl ⟨rfl, rfl⟩⟩⟩
  · unfold St.RowQ
    rfl

/-- What Check answers. -/
def checkV (a : List St) : Value := if 200 < St.countAll a then .agg #[.int .i64 2, .int .i64 0] else .agg #[.int .i64 (firstErr (St.flatAll a 0 []) 0).1, .int .i64 (firstErr (St.flatAll a 0 []) 0).2]

theorem checkV_plain : checkV plainT = .agg #[.int .i64 0, .int .i64 0] := by rfl
theorem checkV_eight : checkV eightT = .agg #[.int .i64 6, .int .i64 0] := by rfl
theorem count_plain : St.countAll plainT = 3 := by rfl
theorem bulk_plain : St.bulkAll plainT ≤ 1048576 := by decide
theorem bulk_eight : St.bulkAll eightT ≤ 1048576 := by decide

theorem checkV_two (a : List St) : ∃ x y : Int, checkV a = .agg #[.int .i64 x, .int .i64 y] := by
  unfold checkV
  split
  · exact ⟨_, _, rfl⟩
  · exact ⟨_, _, rfl⟩
end Go.Proofs.YtikdidfgdiafoabDoor
namespace Go.Proofs.YtikdidfgdiafoabDoor
open Go.ChangeShapes Go.WideShapes Go.ChangeAt Go.RowKit

/-- What is asked of a world for Check. -/
def Ready (w : World) : Prop := ShapesIn w ∧ FormsIn w

theorem Ready.below {w w' : World} (h : Ready w) (hb : Below w.heap.size w w') : Ready w' :=
  ⟨h.1.below (World.block_lt_of_cell? _ _ (h.1 1 (by omega) (by omega)).1) hb, h.2.below hb⟩

theorem Check_b (hall : ∀ W, Ready W → ListOk W 1048576) (a : List St) (w : World) (v : Value) (p : Nat → Prop) (bl : List Nat) (hr : Ready w) (hsl : St.SlQ p w a v bl) (hnd : bl.Nodup) (hN : St.bulkAll a ≤ 1048576) :
    Calls Tryd.prog 25 #[v] w fun r w' => r = .returned (checkV a) ∧ Below w.heap.size w w' :=
  Check_of_list a w v p bl hsl hnd hN (hall w hr)

theorem Count_b (a : List St) (w w1 : World) (v : Value) (p : Nat → Prop) (bl : List Nat) (hsl : St.SlQ p w a v bl) (hnd : bl.Nodup) (hN : St.bulkAll a ≤ 1048576) (hb : Below w.heap.size w w1) :
    Calls Tryd.prog 34 #[v] w1 fun r w' => r = .returned (.int .i64 (St.countAll a)) ∧ Below w1.heap.size w1 w' := by
  obtain ⟨ts, hts, hct, hnd'⟩ := hsl.seen hnd
  have := St.countAll_le a
  have h := Count_any ts w1 v (hts.below hb) hnd' (by omega)
  rw [hct] at h
  exact h

theorem CheckBody_b (a : List St) (w : World) (v : Value) (hN : St.bulkAll a ≤ 1048576) (hin : St.Sl w a v) :
    Calls Tryd.prog 21 #[v] w fun r w' => r = .returned (checkV a) ∧ Below w.heap.size w w' := CheckBody_any a w v hN hin

/-- How far the walk is. -/
def Phase (_ : Nat) : Prop := True

/-- The law's own body, hidden. -/
theorem plain_b (w : World) : Calls Tryd.prog 19 #[] w fun r w' => ∃ v T bl, r = .returned v ∧ Hid ((St.SlQ (fun b => w.heap.size ≤ b) w' T v bl ∧ bl.Nodup ∧ St.bulkAll T ≤ 1048576) ∧ (checkV T = .agg #[.int .i64 0, .int .i64 0] ∧ St.countAll T = 3)) ∧ Below w.heap.size w w' := by
  refine (plain_any w).mono ?_
  rintro r w' ⟨v, bl, rfl, h1, h2, h3⟩
  exact ⟨v, plainT, bl, rfl, ⟨⟨h1, h2, bulk_plain⟩, checkV_plain, count_plain⟩, h3⟩

theorem Check_p (hall : ∀ W, Ready W → ListOk W 1048576) (T : List St) (w : World) (v : Value) (p : Nat → Prop) (bl : List Nat) (hr : Ready w) (h : Hid ((St.SlQ p w T v bl ∧ bl.Nodup ∧ St.bulkAll T ≤ 1048576) ∧ (checkV T = .agg #[.int .i64 0, .int .i64 0] ∧ St.countAll T = 3))) :
    Calls Tryd.prog 25 #[v] w fun r w' => r = .returned (.agg #[.int .i64 0, .int .i64 0]) ∧ Below w.heap.size w w' := by
  have := Check_b hall T w v p bl hr h.out.1.1 h.out.1.2.1 h.out.1.2.2
  rw [h.out.2.1] at this
  exact this

theorem Count_p (T : List St) (w : World) (v : Value) (p : Nat → Prop) (bl : List Nat) (h : Hid ((St.SlQ p w T v bl ∧ bl.Nodup ∧ St.bulkAll T ≤ 1048576) ∧ (checkV T = .agg #[.int .i64 0, .int .i64 0] ∧ St.countAll T = 3))) :
    Calls Tryd.prog 34 #[v] w fun r w' => r = .returned (.int .i64 3) ∧ Below w.heap.size w w' := by
  have := Count_b T w w v p bl h.out.1.1 h.out.1.2.1 h.out.1.2.2 (Below.refl _ _)
  rw [h.out.2.2] at this
  exact this

theorem Check_e (hall : ∀ W, Ready W → ListOk W 1048576) (w : World) (hr : Ready w) :
    Calls Tryd.prog 25 #[.slice (some ⟨w.heap.size, 0, none⟩) 1 1] (w.alloc (.cells #[.int .i64 8, .int .i64 0, .int .i64 0, .int .i64 0, .slice none 0 0, .int .i64 0, .int .i64 0, .int .i64 0, .slice none 0 0, .int .i64 0, .int .i64 0, .slice none 0 0, .slice none 0 0, .slice none 0 0] 61)) fun r w' => r = .returned (.agg #[.int .i64 6, .int .i64 0]) ∧ Below w.heap.size w w' := by
  have hb : Below w.heap.size w (w.alloc (.cells #[.int .i64 8, .int .i64 0, .int .i64 0, .int .i64 0, .slice none 0 0, .int .i64 0, .int .i64 0, .int .i64 0, .slice none 0 0, .int .i64 0, .int .i64 0, .slice none 0 0, .slice none 0 0, .slice none 0 0] 61)) := (Below.refl _ _).alloc (Nat.le_refl _) _
  have := Check_b hall eightT _ _ _ _ (hr.below hb) (eight_in w) (by simp) bulk_eight
  rw [checkV_eight] at this
  exact this.mono fun r w' ⟨h1, h2⟩ => ⟨h1, below_seq hb h2⟩

theorem Check_a (hall : ∀ W, Ready W → ListOk W 1048576) (a : List St) (cx cy : Int) (w : World) (v : Value) (p : Nat → Prop) (bl : List Nat) (hr : Ready w) (h : St.SlQ p w a v bl ∧ bl.Nodup ∧ St.bulkAll a ≤ 1048576) (hx : checkV a = .agg #[.int .i64 cx, .int .i64 cy]) :
    Calls Tryd.prog 25 #[v] w fun r w' => r = .returned (.agg #[.int .i64 cx, .int .i64 cy]) ∧ Below w.heap.size w w' := by
  have := Check_b hall a w v p bl hr h.1 h.2.1 h.2.2
  rw [hx] at this
  exact this

theorem CheckBody_a (a : List St) (cx cy : Int) (w : World) (v : Value) (hN : St.bulkAll a ≤ 1048576) (hin : St.Sl w a v) (hx : checkV a = .agg #[.int .i64 cx, .int .i64 cy]) :
    Calls Tryd.prog 21 #[v] w fun r w' => r = .returned (.agg #[.int .i64 cx, .int .i64 cy]) ∧ Below w.heap.size w w' := by
  have := CheckBody_b a w v hN hin
  rw [hx] at this
  exact this

theorem claims_b (a : List St) (w : World) (v : Value) (c : Bool) (hN : St.bulkAll a ≤ 1048576) (hin : St.Sl w a v) (hc : (decide (St.deepAll 0 a ≤ 300) && decide ((St.countAll a : Int) ≤ 2000)) = c) :
    Calls Tryd.prog 6 #[v] w fun r w' => r = .returned (.bool c) ∧ Below w.heap.size w w' := by
  have := claims_any a w v hN hin
  rw [hc] at this
  exact this





end Go.Proofs.YtikdidfgdiafoabDoor
