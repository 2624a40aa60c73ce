import Derived.Test.YtgemadoieielcacDoorGBCheckP
import Derived.Test.YtgemadoieielcacDoorGBSame
import Derived.Deep.DeepCutAuto
import Derived.Deep.CutRange
import Derived.Test.YtgemadoieielcacDoorGCG
import Derived.Test.YtgemadoieielcacDoorGBState
import Derived.Test.YtgemadoieielcacDoorGCI
namespace Go.Proofs.YtgemadoieielcacDoor.B
open Go.ChangeShapes Go.WideShapes Go.ChangeAt Go.RowKit

def ex0 : Ex := .mk 0 0 []
/-- The law's own body. -/
def plainT : List St := [.mk 4 3 ex0 0 ex0 ex0 [.mk 1 0 (.mk 5 0 [.mk 2 0 [], .mk 3 0 []]) 0 ex0 ex0 [] []] [], .mk 2 1 (.mk 7 0 [.mk 2 0 [], .mk 1 2 []]) 0 ex0 ex0 [] []]

theorem blk_cell {w : World} {g j : Nat} {cs : Array Value} {t : TypeId} {fr : Nat × Nat} {u : Value} (h : w.heap[g]? = some (.cells cs t fr)) (hj : cs[j]? = some u) : w.cell? ⟨g, j, none⟩ = some u := by
  unfold World.cell?
  rw [h]
  simpa using hj

theorem leaf_in (p : Nat → Prop) (w : World) (k n : Int) : (Ex.mk k n []).InP p w (.agg #[.int .i64 k, .int .i64 n, .slice none 0 0]) := by
  unfold Ex.InP
  exact ⟨none, 0, rfl, .inl rfl⟩

theorem two_in {p : Nat → Prop} {w : World} {g : Nat} {k n k1 n1 k2 n2 : Int} {t : TypeId} {fr : Nat × Nat} (hp : p g) (h : w.heap[g]? = some (.cells #[.int .i64 k1, .int .i64 n1, .slice none 0 0, .int .i64 k2, .int .i64 n2, .slice none 0 0] t fr)) :
    (Ex.mk k n [.mk k1 n1 [], .mk k2 n2 []]).InP p w (.agg #[.int .i64 k, .int .i64 n, .slice (some ⟨g, 0, none⟩) 2 2]) := by
  unfold Ex.InP
  refine ⟨_, 2, rfl, .inr ⟨g, 0, rfl, hp, ?_⟩⟩
  unfold Ex.RowP
  refine ⟨⟨_, _, _, blk_cell h rfl, blk_cell h rfl, blk_cell h rfl, leaf_in _ _ _ _⟩, ?_⟩
  unfold Ex.RowP
  refine ⟨⟨_, _, _, blk_cell h rfl, blk_cell h rfl, blk_cell h rfl, leaf_in _ _ _ _⟩, ?_⟩
  unfold Ex.RowP
  trivial

theorem plain_in {p : Nat → Prop} {W : World} {g1 g2 g3 g4 : Nat} (hp : p g1 ∧ p g2 ∧ p g3 ∧ p g4)
    (h1 : W.heap[g1]? = some (.cells #[.int .i64 2, .int .i64 0, .slice none 0 0, .int .i64 3, .int .i64 0, .slice none 0 0] 119 (0, 0)))
    (h2 : W.heap[g2]? = some (.cells #[.int .i64 1, .int .i64 0, .int .i64 5, .int .i64 0, .slice (some ⟨g1, 0, none⟩) 2 2, .int .i64 0, .int .i64 0, .int .i64 0, .slice none 0 0, .int .i64 0, .int .i64 0, .slice none 0 0, .slice none 0 0, .slice none 0 0] 123 (0, 0)))
    (h3 : W.heap[g3]? = some (.cells #[.int .i64 2, .int .i64 0, .slice none 0 0, .int .i64 1, .int .i64 2, .slice none 0 0] 119 (0, 0)))
    (h4 : W.heap[g4]? = some (.cells #[.int .i64 4, .int .i64 3, .int .i64 0, .int .i64 0, .slice none 0 0, .int .i64 0, .int .i64 0, .int .i64 0, .slice none 0 0, .int .i64 0, .int .i64 0, .slice none 0 0, .slice (some ⟨g2, 0, none⟩) 1 1, .slice none 0 0,
      .int .i64 2, .int .i64 1, .int .i64 7, .int .i64 0, .slice (some ⟨g3, 0, none⟩) 2 2, .int .i64 0, .int .i64 0, .int .i64 0, .slice none 0 0, .int .i64 0, .int .i64 0, .slice none 0 0, .slice none 0 0, .slice none 0 0] 123 (0, 0))) :
    St.SlQ p W plainT (.slice (some ⟨g4, 0, none⟩) 2 2) [g4, g2] := by
  refine ⟨_, 2, rfl, .inr ⟨by simp [plainT], g4, [g2], rfl, ⟨hp.2.2.2, _, h4⟩, rfl, ?_⟩⟩
  unfold plainT St.RowQ
  refine ⟨[g2], [], rfl, ⟨fun i => ([.int .i64 4, .int .i64 3, .int .i64 0, .int .i64 0, .slice none 0 0, .int .i64 0, .int .i64 0, .int .i64 0, .slice none 0 0, .int .i64 0, .int .i64 0, .slice none 0 0, .slice (some ⟨g2, 0, none⟩) 1 1, .slice none 0 0] : List Value).getD i undef, fun j hj => ?_, ?_⟩, ?_⟩
  · match j, hj with
    | 0, _ | 1, _ | 2, _ | 3, _ | 4, _ | 5, _ | 6, _ | 7, _ | 8, _ | 9, _ | 10, _ | 11, _ | 12, _ | 13, _ => exact blk_cell h4 rfl
  · unfold St.InQ
    refine ⟨_, _, _, _, _, _, _, _, _, _, _, rfl, leaf_in _ _ _ _, leaf_in _ _ _ _, leaf_in _ _ _ _, [g2], [], rfl, ⟨_, 1, rfl, .inr ⟨by simp, g2, [], rfl, ⟨hp.2.1, _, h2⟩, rfl, ?_⟩⟩, ⟨none, 0, rfl, .inl ⟨rfl, rfl⟩⟩⟩
    unfold St.RowQ
    refine ⟨[], [], rfl, ⟨fun i => ([.int .i64 1, .int .i64 0, .int .i64 5, .int .i64 0, .slice (some ⟨g1, 0, none⟩) 2 2, .int .i64 0, .int .i64 0, .int .i64 0, .slice none 0 0, .int .i64 0, .int .i64 0, .slice none 0 0, .slice none 0 0, .slice none 0 0] : List Value).getD i undef, fun j hj => ?_, ?_⟩, ?_⟩
    · match j, hj with
      | 0, _ | 1, _ | 2, _ | 3, _ | 4, _ | 5, _ | 6, _ | 7, _ | 8, _ | 9, _ | 10, _ | 11, _ | 12, _ | 13, _ => exact blk_cell h2 rfl
    · unfold St.InQ
      exact ⟨_, _, _, _, _, _, _, _, _, _, _, rfl, two_in hp.1 h1, leaf_in _ _ _ _, leaf_in _ _ _ _, [], [], rfl, ⟨none, 0, rfl, .inl ⟨rfl, rfl⟩⟩, ⟨none, 0, rfl, .inl ⟨rfl, rfl⟩⟩⟩
    · unfold St.RowQ
      rfl
  · unfold St.RowQ
    refine ⟨[], [], rfl, ⟨fun i => ([.int .i64 2, .int .i64 1, .int .i64 7, .int .i64 0, .slice (some ⟨g3, 0, none⟩) 2 2, .int .i64 0, .int .i64 0, .int .i64 0, .slice none 0 0, .int .i64 0, .int .i64 0, .slice none 0 0, .slice none 0 0, .slice none 0 0] : List Value).getD i undef, fun j hj => ?_, ?_⟩, ?_⟩
    · match j, hj with
      | 0, _ | 1, _ | 2, _ | 3, _ | 4, _ | 5, _ | 6, _ | 7, _ | 8, _ | 9, _ | 10, _ | 11, _ | 12, _ | 13, _ => exact blk_cell h4 rfl
    · unfold St.InQ
      exact ⟨_, _, _, _, _, _, _, _, _, _, _, rfl, two_in hp.2.2.1 h3, leaf_in _ _ _ _, leaf_in _ _ _ _, [], [], rfl, ⟨none, 0, rfl, .inl ⟨rfl, rfl⟩⟩, ⟨none, 0, rfl, .inl ⟨rfl, rfl⟩⟩⟩
    · unfold St.RowQ
      rfl

theorem plain_heap {w : World} {o0 o1 o2 o3 o4 : Obj} : (((((w.alloc o0).alloc o1).alloc o2).alloc o3).alloc o4).heap[w.heap.size + 1]? = some o1 ∧ (((((w.alloc o0).alloc o1).alloc o2).alloc o3).alloc o4).heap[w.heap.size + 1 + 1]? = some o2 ∧
    (((((w.alloc o0).alloc o1).alloc o2).alloc o3).alloc o4).heap[w.heap.size + 1 + 1 + 1]? = some o3 ∧ (((((w.alloc o0).alloc o1).alloc o2).alloc o3).alloc o4).heap[w.heap.size + 1 + 1 + 1 + 1]? = some o4 := by
  have n1 := heap_alloc_new (w.alloc o0) o1
  have n2 := heap_alloc_new ((w.alloc o0).alloc o1) o2
  have n3 := heap_alloc_new (((w.alloc o0).alloc o1).alloc o2) o3
  have n4 := heap_alloc_new ((((w.alloc o0).alloc o1).alloc o2).alloc o3) o4
  have z1 : (w.alloc o0).heap.size = w.heap.size + 1 := by simp
  have z2 : ((w.alloc o0).alloc o1).heap.size = w.heap.size + 1 + 1 := by simp
  have z3 : (((w.alloc o0).alloc o1).alloc o2).heap.size = w.heap.size + 1 + 1 + 1 := by simp
  have z4 : ((((w.alloc o0).alloc o1).alloc o2).alloc o3).heap.size = w.heap.size + 1 + 1 + 1 + 1 := by simp
  have z5 : (((w.alloc o0).alloc o1).alloc o2).heap.size = w.heap.size + 1 + 1 + 1 := by simp
  rw [z1] at n1
  rw [z2] at n2
  rw [z3] at n3
  rw [z4] at n4
  refine ⟨?_, ?_, ?_, n4⟩
  · rw [Below.heap_alloc _ _ _ (by omega), Below.heap_alloc _ _ _ (by omega), Below.heap_alloc _ _ _ (by omega)]; exact n1
  · rw [Below.heap_alloc _ _ _ (by omega), Below.heap_alloc _ _ _ (by omega)]; exact n2
  · rw [Below.heap_alloc _ _ _ (by omega)]; exact n3

set_option maxRecDepth 20000 in
set_option maxHeartbeats 2000000 in
theorem plain_any (w : World) : Calls Tryd.prog 31 #[] w fun r w' => ∃ v bl, r = .returned v ∧ St.SlQ (fun b => w.heap.size ≤ b) w' plainT v bl ∧ bl.Nodup ∧ Below w.heap.size w w' := by
  go_enter Tryd.func31, Tryd.ntmps31
  go_wp2_with fail
  go_ret
  obtain ⟨h1, h2, h3, h4⟩ := @plain_heap w _ _ _ _ _
  exact ⟨_, _, rfl, plain_in ⟨by omega, by omega, by omega, by omega⟩ h1 h2 h3 h4, (by clear h1 h2 h3 h4; simp; omega), (((((Below.refl _ w).alloc (Nat.le_refl _) _).alloc (by simp) _).alloc (by simp; omega) _).alloc (by simp; omega) _).alloc (by simp; omega) _⟩
end Go.Proofs.YtgemadoieielcacDoor.B
namespace Go.Proofs.YtgemadoieielcacDoor.B
open Go.ChangeShapes Go.WideShapes Go.ChangeAt Go.RowKit

/-- A body of a kind that is none. -/
def eightT : List St := [.mk 8 0 ex0 0 ex0 ex0 [] []]

theorem eight_in (w : World) : St.SlQ (fun b => w.heap.size ≤ b) (w.alloc (.cells #[.int .i64 8, .int .i64 0, .int .i64 0, .int .i64 0, .slice none 0 0, .int .i64 0, .int .i64 0, .int .i64 0, .slice none 0 0, .int .i64 0, .int .i64 0, .slice none 0 0, .slice none 0 0, .slice none 0 0] 123)) eightT (.slice (some ⟨w.heap.size, 0, none⟩) 1 1) [w.heap.size] := by
  have h4 := heap_alloc_new w (.cells #[.int .i64 8, .int .i64 0, .int .i64 0, .int .i64 0, .slice none 0 0, .int .i64 0, .int .i64 0, .int .i64 0, .slice none 0 0, .int .i64 0, .int .i64 0, .slice none 0 0, .slice none 0 0, .slice none 0 0] 123)
  refine ⟨_, 1, rfl, .inr ⟨by simp [eightT], w.heap.size, [], rfl, ⟨Nat.le_refl _, _, h4⟩, rfl, ?_⟩⟩
  unfold eightT St.RowQ
  refine ⟨[], [], rfl, ⟨fun i => ([.int .i64 8, .int .i64 0, .int .i64 0, .int .i64 0, .slice none 0 0, .int .i64 0, .int .i64 0, .int .i64 0, .slice none 0 0, .int .i64 0, .int .i64 0, .slice none 0 0, .slice none 0 0, .slice none 0 0] : List Value).getD i undef, fun j hj => ?_, ?_⟩, ?_⟩
  · match j, hj with
    | 0, _ | 1, _ | 2, _ | 3, _ | 4, _ | 5, _ | 6, _ | 7, _ | 8, _ | 9, _ | 10, _ | 11, _ | 12, _ | 13, _ => exact blk_cell h4 rfl
  · unfold St.InQ
    exact ⟨_, _, _, _, _, _, _, _, _, _, _, rfl, leaf_in _ _ _ _, leaf_in _ _ _ _, leaf_in _ _ _ _, [], [], rfl, ⟨none, 0, rfl, .inl ⟨rfl, rfl⟩⟩, ⟨none, 0, rfl, .inl ⟨rfl, rfl⟩⟩⟩
  · unfold St.RowQ
    rfl

/-- What Check answers. -/
def checkV (a : List St) : Value := if 200 < St.countAll a then .agg #[.int .i64 2, .int .i64 0] else .agg #[.int .i64 (firstErr (St.flatAll a 0 []) 0).1, .int .i64 (firstErr (St.flatAll a 0 []) 0).2]

theorem checkV_plain : checkV plainT = .agg #[.int .i64 0, .int .i64 0] := by rfl
theorem checkV_eight : checkV eightT = .agg #[.int .i64 6, .int .i64 0] := by rfl
theorem count_plain : St.countAll plainT = 3 := by rfl
theorem bulk_plain : St.bulkAll plainT ≤ 1048576 := by decide
theorem bulk_eight : St.bulkAll eightT ≤ 1048576 := by decide

theorem checkV_two (a : List St) : ∃ x y : Int, checkV a = .agg #[.int .i64 x, .int .i64 y] := by
  unfold checkV
  split
  · exact ⟨_, _, rfl⟩
  · exact ⟨_, _, rfl⟩
end Go.Proofs.YtgemadoieielcacDoor.B
namespace Go.Proofs.YtgemadoieielcacDoor.B
open Go.ChangeShapes Go.WideShapes Go.ChangeAt Go.RowKit

/-- What is asked of a world for Check. -/
def Ready (w : World) : Prop := ShapesIn w ∧ FormsIn w

theorem Ready.below {w w' : World} (h : Ready w) (hb : Below w.heap.size w w') : Ready w' :=
  ⟨h.1.below (World.block_lt_of_cell? _ _ (h.1 1 (by omega) (by omega)).1) hb, h.2.below hb⟩

theorem Check_b (hall : ∀ W, Ready W → ListOk W 1048576) (a : List St) (w : World) (v : Value) (p : Nat → Prop) (bl : List Nat) (hr : Ready w) (hsl : St.SlQ p w a v bl) (hnd : bl.Nodup) (hN : St.bulkAll a ≤ 1048576) :
    Calls Tryd.prog 59 #[v] w fun r w' => r = .returned (checkV a) ∧ Below w.heap.size w w' :=
  Check_of_list a w v p bl hsl hnd hN (hall w hr)

theorem Count_b (a : List St) (w w1 : World) (v : Value) (p : Nat → Prop) (bl : List Nat) (hsl : St.SlQ p w a v bl) (hnd : bl.Nodup) (hN : St.bulkAll a ≤ 1048576) (hb : Below w.heap.size w w1) :
    Calls Tryd.prog 93 #[v] w1 fun r w' => r = .returned (.int .i64 (St.countAll a)) ∧ Below w1.heap.size w1 w' := by
  obtain ⟨ts, hts, hct, hnd'⟩ := hsl.seen hnd
  have := St.countAll_le a
  have h := Count_any ts w1 v (hts.below hb) hnd' (by omega)
  rw [hct] at h
  exact h

theorem CheckBody_b (a : List St) (w : World) (v : Value) (hN : St.bulkAll a ≤ 1048576) (hin : St.Sl w a v) :
    Calls Tryd.prog 63 #[v] w fun r w' => r = .returned (checkV a) ∧ Below w.heap.size w w' := CheckBody_any a w v hN hin

/-- How far the walk is. -/
def Phase (_ : Nat) : Prop := True

/-- The law's own body, hidden. -/
theorem plain_b (w : World) : Calls Tryd.prog 31 #[] w fun r w' => ∃ v T bl, r = .returned v ∧ Hid ((St.SlQ (fun b => w.heap.size ≤ b) w' T v bl ∧ bl.Nodup ∧ St.bulkAll T ≤ 1048576) ∧ (checkV T = .agg #[.int .i64 0, .int .i64 0] ∧ St.countAll T = 3)) ∧ Below w.heap.size w w' := by
  refine (plain_any w).mono ?_
  rintro r w' ⟨v, bl, rfl, h1, h2, h3⟩
  exact ⟨v, plainT, bl, rfl, ⟨⟨h1, h2, bulk_plain⟩, checkV_plain, count_plain⟩, h3⟩

theorem Check_p (hall : ∀ W, Ready W → ListOk W 1048576) (T : List St) (w : World) (v : Value) (p : Nat → Prop) (bl : List Nat) (hr : Ready w) (h : Hid ((St.SlQ p w T v bl ∧ bl.Nodup ∧ St.bulkAll T ≤ 1048576) ∧ (checkV T = .agg #[.int .i64 0, .int .i64 0] ∧ St.countAll T = 3))) :
    Calls Tryd.prog 59 #[v] w fun r w' => r = .returned (.agg #[.int .i64 0, .int .i64 0]) ∧ Below w.heap.size w w' := by
  have := Check_b hall T w v p bl hr h.out.1.1 h.out.1.2.1 h.out.1.2.2
  rw [h.out.2.1] at this
  exact this

theorem Count_p (T : List St) (w : World) (v : Value) (p : Nat → Prop) (bl : List Nat) (h : Hid ((St.SlQ p w T v bl ∧ bl.Nodup ∧ St.bulkAll T ≤ 1048576) ∧ (checkV T = .agg #[.int .i64 0, .int .i64 0] ∧ St.countAll T = 3))) :
    Calls Tryd.prog 93 #[v] w fun r w' => r = .returned (.int .i64 3) ∧ Below w.heap.size w w' := by
  have := Count_b T w w v p bl h.out.1.1 h.out.1.2.1 h.out.1.2.2 (Below.refl _ _)
  rw [h.out.2.2] at this
  exact this

theorem Check_e (hall : ∀ W, Ready W → ListOk W 1048576) (w : World) (hr : Ready w) :
    Calls Tryd.prog 59 #[.slice (some ⟨w.heap.size, 0, none⟩) 1 1] (w.alloc (.cells #[.int .i64 8, .int .i64 0, .int .i64 0, .int .i64 0, .slice none 0 0, .int .i64 0, .int .i64 0, .int .i64 0, .slice none 0 0, .int .i64 0, .int .i64 0, .slice none 0 0, .slice none 0 0, .slice none 0 0] 123)) fun r w' => r = .returned (.agg #[.int .i64 6, .int .i64 0]) ∧ Below w.heap.size w w' := by
  have hb : Below w.heap.size w (w.alloc (.cells #[.int .i64 8, .int .i64 0, .int .i64 0, .int .i64 0, .slice none 0 0, .int .i64 0, .int .i64 0, .int .i64 0, .slice none 0 0, .int .i64 0, .int .i64 0, .slice none 0 0, .slice none 0 0, .slice none 0 0] 123)) := (Below.refl _ _).alloc (Nat.le_refl _) _
  have := Check_b hall eightT _ _ _ _ (hr.below hb) (eight_in w) (by simp) bulk_eight
  rw [checkV_eight] at this
  exact this.mono fun r w' ⟨h1, h2⟩ => ⟨h1, below_seq hb h2⟩

theorem Check_a (hall : ∀ W, Ready W → ListOk W 1048576) (a : List St) (cx cy : Int) (w : World) (v : Value) (p : Nat → Prop) (bl : List Nat) (hr : Ready w) (h : St.SlQ p w a v bl ∧ bl.Nodup ∧ St.bulkAll a ≤ 1048576) (hx : checkV a = .agg #[.int .i64 cx, .int .i64 cy]) :
    Calls Tryd.prog 59 #[v] w fun r w' => r = .returned (.agg #[.int .i64 cx, .int .i64 cy]) ∧ Below w.heap.size w w' := by
  have := Check_b hall a w v p bl hr h.1 h.2.1 h.2.2
  rw [hx] at this
  exact this

theorem CheckBody_a (a : List St) (cx cy : Int) (w : World) (v : Value) (hN : St.bulkAll a ≤ 1048576) (hin : St.Sl w a v) (hx : checkV a = .agg #[.int .i64 cx, .int .i64 cy]) :
    Calls Tryd.prog 63 #[v] w fun r w' => r = .returned (.agg #[.int .i64 cx, .int .i64 cy]) ∧ Below w.heap.size w w' := by
  have := CheckBody_b a w v hN hin
  rw [hx] at this
  exact this

theorem claims_b (a : List St) (w : World) (v : Value) (c : Bool) (hN : St.bulkAll a ≤ 1048576) (hin : St.Sl w a v) (hc : (decide (St.deepAll 0 a ≤ 300) && decide ((St.countAll a : Int) ≤ 2000)) = c) :
    Calls Tryd.prog 33 #[v] w fun r w' => r = .returned (.bool c) ∧ Below w.heap.size w w' := by
  have := claims_any a w v hN hin
  rw [hc] at this
  exact this





end Go.Proofs.YtgemadoieielcacDoor.B
namespace Go.Proofs.YtgemadoieielcacDoor.B

theorem err_lay (k n : Int) (a : List Ex) (h : (Ex.mk k n a).err = 0) : ((k = 1 ∨ k = 2 ∨ k = 3) ∧ a = []) ∨ ((k = 4 ∨ k = 5 ∨ k = 6 ∨ k = 7) ∧ n = 0) := by
  unfold Ex.err at h
  by_cases h1 : ((Ex.mk k n a).a.length : Int) ≠ arity (Ex.mk k n a).k
  · rw [if_pos h1] at h; omega
  rw [if_neg h1] at h
  by_cases h2 : (Ex.mk k n a).n < 0 ∨ (Ex.mk k n a).n > mostN (Ex.mk k n a).k
  · rw [if_pos h2] at h; omega
  have h1' : (a.length : Int) = arity k := by simpa [Ex.a, Ex.k] using h1
  have h2' : ¬ (n < 0 ∨ n > mostN k) := h2
  unfold arity at h1'
  unfold mostN at h2'
  by_cases k1 : k = 1 ∨ k = 2 ∨ k = 3
  · rw [if_pos k1] at h1'
    exact .inl ⟨k1, by simpa using h1'⟩
  rw [if_neg (by omega), if_neg (by omega), if_neg (by omega)] at h2'
  rw [if_neg k1] at h1'
  by_cases k4 : k = 4 ∨ k = 5 ∨ k = 6 ∨ k = 7
  · exact .inr ⟨k4, by omega⟩
  · rw [if_neg (by omega), if_neg (by omega)] at h1'
    omega

mutual
theorem Ex.node_lay : ∀ (e : Ex) (c : Nat), (e.node c).1 = 0 → e.Lay ∧ (e.node c).2 = c + e.nodes
  | .mk k n a, c, h => by
    unfold Ex.node at h ⊢
    by_cases h30 : 30 < c + 1
    · rw [if_pos h30] at h; simp at h
    rw [if_neg h30] at h ⊢
    by_cases hE : (Ex.mk k n a).err ≠ 0
    · rw [if_pos hE] at h; exact absurd h hE
    rw [if_neg hE] at h ⊢
    obtain ⟨q1, q2⟩ := Ex.nodeAll_lay a (c + 1) h
    rw [Ex.Lay, Ex.nodes]
    exact ⟨⟨err_lay k n a (by simpa using hE), q1⟩, by omega⟩
theorem Ex.nodeAll_lay : ∀ (a : List Ex) (c : Nat), (Ex.nodeAll a c).1 = 0 → Ex.LayAll a ∧ (Ex.nodeAll a c).2 = c + Ex.nodesAll a
  | [], c, _ => ⟨trivial, rfl⟩
  | x :: r, c, h => by
    unfold Ex.nodeAll at h ⊢
    by_cases hx : (x.node c).1 ≠ 0
    · rw [if_pos hx] at h; exact absurd h hx
    rw [if_neg hx] at h ⊢
    obtain ⟨p1, p2⟩ := Ex.node_lay x c (by simpa using hx)
    obtain ⟨q1, q2⟩ := Ex.nodeAll_lay r _ h
    rw [Ex.nodesAll]
    exact ⟨⟨p1, q1⟩, by omega⟩
end

theorem node_small {e : Ex} (h : (e.node 0).1 = 0) : e.Lay ∧ e.nodes ≤ 30 := by
  obtain ⟨h1, h2⟩ := Ex.node_lay e 0 h
  have := Ex.node_le e 0 h
  exact ⟨h1, by omega⟩

theorem none_small {e : Ex} (h : exNone e.k e.n e.a.length = true) : e.nodes ≤ 30 := by
  obtain ⟨k, n, a⟩ := e
  simp [exNone, Ex.a] at h
  rw [Ex.nodes, h.2, Ex.nodesAll]
  omega

theorem cond_lay (ck : Int) (ca cb : Ex) (h : condErr ck ca cb = 0) : ((1 ≤ ck ∧ ck ≤ 4) ∧ ca.Lay ∧ cb.Lay) ∧ ca.nodes ≤ 30 ∧ cb.nodes ≤ 30 := by
  unfold condErr at h
  by_cases h1 : ck < 1 ∨ 4 < ck
  · rw [if_pos h1] at h; omega
  rw [if_neg h1] at h
  by_cases h2 : (ca.node 0).1 ≠ 0
  · rw [if_pos h2] at h; exact absurd h h2
  rw [if_neg h2] at h
  have p := node_small (e := ca) (by simpa using h2)
  have q := node_small (e := cb) h
  exact ⟨⟨by omega, p.1, q.1⟩, p.2, q.2⟩

theorem prog_lay (k n : Int) (eN : Bool) (nE ck : Int) (aN bN : Bool) (nC : Int) (ly ll : Nat) (d : Int) (lk : Bool) (h : progErr k n eN nE ck aN bN nC ly ll d lk = 0) :
    (1 ≤ k ∧ k ≤ 7) ∧ (lowN k ≤ n ∧ n ≤ highN k) ∧ (valK k = true → nE = 0) ∧ (conK k = true → nC = 0) ∧ (valK k = false → eN = true) ∧ (conK k = false → aN = true ∧ bN = true) := by
  unfold progErr at h
  by_cases h1 : k < 1 ∨ 8 ≤ k
  · rw [if_pos h1] at h; omega
  rw [if_neg h1] at h
  by_cases h2 : ¬ (lowN k ≤ n ∧ n ≤ highN k)
  · rw [if_pos h2] at h; omega
  rw [if_neg h2] at h
  by_cases h3 : moreS (valK k) (conK k) (innK k) (othK k) eN ck aN bN ly ll = true
  · rw [if_pos h3] at h; omega
  rw [if_neg h3] at h
  by_cases h4 : valK k = true ∧ nE ≠ 0
  · rw [if_pos h4] at h; exact absurd h h4.2
  rw [if_neg h4] at h
  by_cases h5 : conK k = true ∧ nC ≠ 0
  · rw [if_pos h5] at h; exact absurd h h5.2
  refine ⟨by omega, by simpa using h2, fun hv => ?_, fun hv => ?_, fun hv => ?_, fun hv => ?_⟩
  · by_cases hz : nE = 0
    · exact hz
    · exact absurd ⟨hv, hz⟩ h4
  · by_cases hz : nC = 0
    · exact hz
    · exact absurd ⟨hv, hz⟩ h5
  · unfold moreS at h3
    rw [hv] at h3
    rcases eN with _ | _
    · simp at h3
    · rfl
  · unfold moreS at h3
    rw [hv] at h3
    rcases aN with _ | _ <;> rcases bN with _ | _ <;> simp at h3 ⊢

mutual
theorem St.chk_lay : ∀ (x : St) (ar : List (Int × Int)) (i : Int), (x.chk ar i).1 = 0 → x.Lay ∧ x.bulk ≤ 91 * x.count
  | .mk k n e ck ca cb b l, ar, i, h => by
    unfold St.chk at h
    by_cases h1 : (St.mk k n e ck ca cb b l).perr ar ≠ 0
    · rw [if_pos h1] at h; exact absurd h h1
    rw [if_neg h1] at h
    by_cases h2 : (St.chkAll b (ar ++ [(k, n)]) (i + 1)).1 ≠ 0
    · rw [if_pos h2] at h; exact absurd h h2
    rw [if_neg h2] at h
    have hp : progErr k n (exNone e.k e.n e.a.length) (e.node 0).1 ck (exNone ca.k ca.n ca.a.length) (exNone cb.k cb.n cb.a.length) (condErr ck ca cb) b.length l.length ar.length (decide ((6, n) ∈ ar)) = 0 := by simpa [St.perr] using h1
    obtain ⟨g1, g2, g3, g4, g5, g6⟩ := prog_lay _ _ _ _ _ _ _ _ _ _ _ _ hp
    obtain ⟨b1, b2⟩ := St.chkAll_lay b _ _ (by simpa using h2)
    obtain ⟨l1, l2⟩ := St.chkAll_lay l _ _ h
    have he : ((k = 1 ∨ k = 2) → e.Lay) ∧ e.nodes ≤ 30 := by
      by_cases hv : k = 1 ∨ k = 2
      · have := node_small (g3 (by simpa [valK] using hv))
        exact ⟨fun _ => this.1, this.2⟩
      · exact ⟨fun h => absurd h hv, none_small (g5 (by simpa [valK] using hv))⟩
    have hc : ((k = 3 ∨ k = 5) → (1 ≤ ck ∧ ck ≤ 4) ∧ ca.Lay ∧ cb.Lay) ∧ ca.nodes ≤ 30 ∧ cb.nodes ≤ 30 := by
      by_cases hv : k = 3 ∨ k = 5
      · have := cond_lay ck ca cb (g4 (by simpa [conK] using hv))
        exact ⟨fun _ => this.1, this.2⟩
      · have := g6 (by simpa [conK] using hv)
        exact ⟨fun h => absurd h hv, none_small this.1, none_small this.2⟩
    rw [St.Lay, St.bulk, St.count]
    refine ⟨⟨g1, he.1, hc.1, fun hk => ?_, b1, l1⟩, by omega⟩
    rcases hk with rfl | rfl <;> (simp [lowN, highN] at g2; exact g2)
theorem St.chkAll_lay : ∀ (a : List St) (ar : List (Int × Int)) (i : Int), (St.chkAll a ar i).1 = 0 → St.LayAll a ∧ St.bulkAll a ≤ 91 * St.countAll a
  | [], ar, i, _ => ⟨trivial, Nat.zero_le _⟩
  | x :: r, ar, i, h => by
    unfold St.chkAll at h
    by_cases hx : (x.chk ar i).1 ≠ 0
    · rw [if_pos hx] at h; exact absurd h hx
    rw [if_neg hx] at h
    obtain ⟨p1, p2⟩ := St.chk_lay x ar i (by simpa using hx)
    obtain ⟨q1, q2⟩ := St.chkAll_lay r _ _ h
    rw [St.bulkAll, St.countAll]
    exact ⟨⟨p1, q1⟩, by omega⟩
end

/-- What Check takes. -/
theorem checkV_lay {a : List St} {cy : Int} (h : checkV a = .agg #[.int .i64 0, .int .i64 cy]) : cy = 0 ∧ St.LayAll a ∧ St.bulkAll a ≤ 18200 := by
  unfold checkV at h
  by_cases hn : 200 < St.countAll a
  · rw [if_pos hn] at h
    simp at h
  · rw [if_neg hn] at h
    simp at h
    obtain ⟨h1, h2⟩ := h
    rw [chk_body] at h1 h2
    by_cases hx : (St.chkAll a [] (-1)).1 ≠ 0
    · rw [if_pos hx] at h1; exact absurd h1 hx
    · rw [if_neg hx] at h2
      obtain ⟨q1, q2⟩ := St.chkAll_lay a [] (-1) (by simpa using hx)
      exact ⟨h2.symm, q1, by omega⟩

/-- The image of a body, or what is wrong with it. -/
def imF (a : List St) (cx cy : Int) : (Int × Int) × List Io := if cx = 0 then (if 2000 < (St.pcAll a 0).length then ((2, 0), []) else ((0, 0), St.pcAll a 0)) else ((cx, cy), [])

end Go.Proofs.YtgemadoieielcacDoor.B
namespace Go.Proofs.YtgemadoieielcacDoor.B
open Go.ChangeShapes Go.WideShapes Go.ChangeAt Go.RowKit

theorem Im_ends {w : World} {g : Nat} {v c k : Value} {a : Act} (h7 : w.heap[g]? = some (.cells #[c, k] 30 (0, 0))) (h2 : a.tmps[2]?.getD undef = v) (h3 : a.tmps[3]?.getD undef = .pointer (some ⟨g, 0, none⟩)) :
    (results Tryd.f30 a.tmps).run Tryd.prog w = .ok (.tuple #[v, .agg #[c, k]]) w := by
  obtain ⟨d1, e1, m1⟩ := cells_of (l := [_, _]) h7
  have d10 := d1 0 _ rfl
  have d11 := d1 1 _ rfl
  simp [results, Tryd.results30, go_sem, h2, h3, d10, d11]

/-- What Image and Compile answer. -/
def ImP (m : (Int × Int) × List Io) (w : World) (r : Ending) (w' : World) : Prop := ∃ iv, r = .returned (.tuple #[iv, .agg #[.int .i64 m.1.1, .int .i64 m.1.2]]) ∧ w'.ownsRow w.heap.size 35 3 iv m.2.length (insVs m.2) ∧ Below w.heap.size w w'

theorem owns_low {w : World} {B B' n : Nat} {v : Value} {xs : List Value} {e : TypeId} {s : Nat} (h : w.ownsRow B e s v n xs) (hb : B' ≤ B) : w.ownsRow B' e s v n xs := by
  obtain ⟨h1, h2 | ⟨g, cap, cur, q1, q2, q3⟩⟩ := h
  · exact ⟨h1, .inl h2⟩
  · exact ⟨h1, .inr ⟨g, cap, cur, q1, by omega, q3⟩⟩

theorem set_two' {w : World} {g : Nat} {a b c d : Value} {T : TypeId} (h : w.heap[g]? = some (.cells #[a, b] T (0, 0))) : ((w.setCell ⟨g, 0, none⟩ c).setCell ⟨g, 1, none⟩ d).heap[g]? = some (.cells #[c, d] T (0, 0)) := by
  rw [setCell_at (setCell_at h)]
  simp

set_option maxRecDepth 20000 in
set_option maxHeartbeats 400000 in
theorem Image_bad (hall : ∀ W, Ready W → ListOk W 1048576) (a : List St) (cx cy : Int) (w : World) (v : Value) (p : Nat → Prop) (bl : List Nat) (hr : Ready w) (h : St.SlQ p w a v bl ∧ bl.Nodup ∧ St.bulkAll a ≤ 1048576) (hx : checkV a = .agg #[.int .i64 cx, .int .i64 cy]) (h0 : ¬ cx = 0) : Calls Tryd.prog 30 #[v] w (ImP (imF a cx cy) w) := by
  have hB := below_new w (.cells #[.int .i64 0, .int .i64 0] 30)
  have HC := Check_a hall a cx cy (w.alloc (.cells #[.int .i64 0, .int .i64 0] 30)) v p bl (hr.below hB) ⟨h.1.move (fun b hb hl => ⟨hb, hB.block b hl⟩), h.2⟩ hx
  have HB : Hid (Below w.heap.size w (w.alloc (.cells #[.int .i64 0, .int .i64 0] 30)) ∧ (w.alloc (.cells #[.int .i64 0, .int .i64 0] 30)).heap[w.heap.size]? = some (.cells #[.int .i64 0, .int .i64 0] 30 (0, 0))) := ⟨hB, heap_alloc_new _ _⟩
  have hcb : (cx != 0) = true := by simpa using h0
  obtain ⟨ad, c, hv, -⟩ := h.1.plain
  subst hv
  unfold imF
  rw [if_neg h0]
  clear hB h hr hx
  go_enter Tryd.func30, Tryd.ntmps30
  go_wp2_with (go_at_call 59; refine HC.mono ?_; rintro r w1 ⟨rfl, hb1⟩; have H1 : Hid (Below w.heap.size w w1 ∧ w1.heap[w.heap.size]? = some (.cells #[.int .i64 0, .int .i64 0] 30 (0, 0))) := ⟨below_seq HB.out.1 hb1, (hb1.block w.heap.size (by simp)).trans HB.out.2⟩; obtain ⟨d1, e1, m1⟩ := cells_of (l := [_, _]) H1.out.2; have d10 := d1 0 _ rfl; have d11 := d1 1 _ rfl; have e10 := e1 0; have e11 := e1 1; clear hb1 HC d1 e1)
  go_region
  all_goals go_wp2_with fail
  all_goals
    refine bodyPost_ret (Im_ends (g := w.heap.size) (v := .slice none 0 0) (c := .int .i64 cx) (k := .int .i64 cy) (((below_new _ _).block w.heap.size (by simp; omega)).trans (set_two' H1.out.2)) rfl rfl) rfl ?_
    exact ⟨_, rfl, World.ownsRow_nil _ _ _ _, (((H1.out.1.setCell (Nat.le_refl _) _).setCell (Nat.le_refl _) _).alloc (by have := H1.out.1.size; simp; omega) _).drew⟩

set_option maxRecDepth 20000 in
set_option maxHeartbeats 400000 in
theorem Image_good (hall : ∀ W, Ready W → ListOk W 1048576) (a : List St) (cy : Int) (w : World) (v : Value) (p : Nat → Prop) (bl : List Nat) (hr : Ready w) (hE : EndsIn w) (hK : CompsIn w) (h : St.SlQ p w a v bl ∧ bl.Nodup ∧ St.bulkAll a ≤ 1048576) (hx : checkV a = .agg #[.int .i64 0, .int .i64 cy]) : Calls Tryd.prog 30 #[v] w (ImP (imF a 0 cy) w) := by
  have hB := below_new w (.cells #[.int .i64 0, .int .i64 0] 30)
  have HC := Check_a hall a 0 cy (w.alloc (.cells #[.int .i64 0, .int .i64 0] 30)) v p bl (hr.below hB) ⟨h.1.move (fun b hb hl => ⟨hb, hB.block b hl⟩), h.2⟩ hx
  have HB : Hid (Below w.heap.size w (w.alloc (.cells #[.int .i64 0, .int .i64 0] 30)) ∧ (w.alloc (.cells #[.int .i64 0, .int .i64 0] 30)).heap[w.heap.size]? = some (.cells #[.int .i64 0, .int .i64 0] 30 (0, 0))) := ⟨hB, heap_alloc_new _ _⟩
  obtain ⟨-, hlay, hblk⟩ := checkV_lay hx
  have hsl := h.1.plain
  obtain ⟨ad, c, hv, -⟩ := h.1.plain
  subst hv
  have HI : Hid (St.Sl w a (.slice ad a.length c) ∧ St.LayAll a ∧ EndsIn w ∧ CompsIn w) := ⟨hsl, hlay, hE, hK⟩
  have hpl := St.pcAll_len a 0
  clear hB h hr hx hsl hlay hE hK
  go_enter Tryd.func30, Tryd.ntmps30
  go_wp2_with (go_at_call 59; refine HC.mono ?_; rintro r w1 ⟨rfl, hb1⟩; have H1 : Hid (Below w.heap.size w w1 ∧ w1.heap[w.heap.size]? = some (.cells #[.int .i64 0, .int .i64 0] 30 (0, 0))) := ⟨below_seq HB.out.1 hb1, (hb1.block w.heap.size (by simp)).trans HB.out.2⟩; clear hb1 HC)
  have hb0 : Below w1.heap.size w1 (w1.alloc (.cells #[.int .i64 0, .int .i64 cy] 30)) := below_new _ _
  have hBW : BW (w1.alloc (.cells #[.int .i64 0, .int .i64 cy] 30)) ((w1.alloc (.cells #[.int .i64 0, .int .i64 cy] 30)).alloc (.cells #[.slice none 0 0, .int .i64 0] 115)) (w1.heap.size + 1) [] 0 (.slice none 0 0) := ⟨below_new _ _, by simp, by have := heap_alloc_new (w1.alloc (.cells #[.int .i64 0, .int .i64 cy] 30)) (.cells #[.slice none 0 0, .int .i64 0] 115); rw [World.size_alloc] at this; exact this, World.ownsRow_nil _ _ _ _⟩
  have HC2 := all_listC (w1.alloc (.cells #[.int .i64 0, .int .i64 cy] 30)) (w1.heap.size + 1) (HI.out.2.2.1.below (below_seq H1.out.1 hb0)) (HI.out.2.2.2.below (below_seq H1.out.1 hb0)) 18200 a ((w1.alloc (.cells #[.int .i64 0, .int .i64 cy] 30)).alloc (.cells #[.slice none 0 0, .int .i64 0] 115)) _ [] 0 _ hblk (HI.out.1.below (below_seq H1.out.1 hb0)) HI.out.2.1 hBW (by simp; omega) (by omega)
  rw [List.nil_append, show (([] : List Io).length : Int) = 0 from rfl, mv_zero] at HC2
  have HB0 : Hid (Below w1.heap.size w1 (w1.alloc (.cells #[.int .i64 0, .int .i64 cy] 30))) := hb0
  clear hb0 hBW
  obtain ⟨I, hI⟩ : ∃ I, St.pcAll a 0 = I := ⟨_, rfl⟩
  rw [hI] at HC2 hpl
  have HII : Hid (St.pcAll a 0 = I) := hI
  clear hI
  by_cases hbig : 2000 < I.length
  · have hbi : (2000 : Int) < (I.length : Int) := by omega
    go_wp2_with (go_at_call 60; refine HC2.mono ?_; rintro r w3 ⟨rfl, iv3, hw3, -⟩; obtain ⟨ad3, c3, rfl⟩ := hw3.shape; obtain ⟨z0, z1, zf, zl⟩ := hw3.cells; have hbw : Below w.heap.size w w3 := below_seq H1.out.1 (below_seq HB0.out hw3.bel); have k3 : w3.heap[w.heap.size]? = some (.cells #[.int .i64 0, .int .i64 0] 30 (0, 0)) := ((below_seq HB0.out hw3.bel).block w.heap.size (Array.getElem?_eq_some_iff.1 H1.out.2).1).trans H1.out.2; obtain ⟨d1, e1, m1⟩ := cells_of (l := [_, _]) k3; have d10 := d1 0 _ rfl; have d11 := d1 1 _ rfl; have e10 := e1 0; have e11 := e1 1; have lw : w.heap.size + 1 ≤ w1.heap.size := (Array.getElem?_eq_some_iff.1 H1.out.2).1; have H3 : Hid (w3.ownsRow (w1.heap.size + 1 + 1) 35 3 (.slice ad3 I.length c3) I.length (insVs I) ∧ Below w.heap.size w w3 ∧ w3.heap[w.heap.size]? = some (.cells #[.int .i64 0, .int .i64 0] 30 (0, 0)) ∧ w.heap.size + 1 ≤ w1.heap.size) := ⟨hw3.own, hbw, k3, lw⟩; clear hw3 hbw k3 HC2 zf d1 e1 lw)
    refine bodyPost_ret (Im_ends (g := w.heap.size) (v := .slice none 0 0) (c := .int .i64 2) (k := .int .i64 0) (set_two' H3.out.2.2.1) rfl rfl) rfl ?_
    have e : imF a 0 cy = ((2, 0), []) := by unfold imF; rw [if_pos rfl, HII.out, if_pos hbig]
    rw [e]
    exact ⟨_, rfl, World.ownsRow_nil _ _ _ _, (H3.out.2.1.setCell (Nat.le_refl _) _).setCell (Nat.le_refl _) _⟩
  · have hbi : ¬ (2000 : Int) < (I.length : Int) := by omega
    go_wp2_with (go_at_call 60; refine HC2.mono ?_; rintro r w3 ⟨rfl, iv3, hw3, -⟩; obtain ⟨ad3, c3, rfl⟩ := hw3.shape; obtain ⟨z0, z1, zf, zl⟩ := hw3.cells; have hbw : Below w.heap.size w w3 := below_seq H1.out.1 (below_seq HB0.out hw3.bel); have k3 : w3.heap[w.heap.size]? = some (.cells #[.int .i64 0, .int .i64 0] 30 (0, 0)) := ((below_seq HB0.out hw3.bel).block w.heap.size (Array.getElem?_eq_some_iff.1 H1.out.2).1).trans H1.out.2; obtain ⟨d1, e1, m1⟩ := cells_of (l := [_, _]) k3; have d10 := d1 0 _ rfl; have d11 := d1 1 _ rfl; have e10 := e1 0; have e11 := e1 1; have lw : w.heap.size + 1 ≤ w1.heap.size := (Array.getElem?_eq_some_iff.1 H1.out.2).1; have H3 : Hid (w3.ownsRow (w1.heap.size + 1 + 1) 35 3 (.slice ad3 I.length c3) I.length (insVs I) ∧ Below w.heap.size w w3 ∧ w3.heap[w.heap.size]? = some (.cells #[.int .i64 0, .int .i64 0] 30 (0, 0)) ∧ w.heap.size + 1 ≤ w1.heap.size) := ⟨hw3.own, hbw, k3, lw⟩; clear hw3 hbw k3 HC2 zf d1 e1 lw)
    refine bodyPost_ret (Im_ends (g := w.heap.size) (v := .slice ad3 I.length c3) (c := .int .i64 0) (k := .int .i64 0) (set_two' H3.out.2.2.1) rfl rfl) rfl ?_
    have e : imF a 0 cy = ((0, 0), I) := by unfold imF; rw [if_pos rfl, HII.out, if_neg hbig]
    rw [e]
    have hs := H3.out.2.2.2
    refine ⟨_, rfl, ?_, (H3.out.2.1.setCell (Nat.le_refl _) _).setCell (Nat.le_refl _) _⟩
    have ho : ((w3.setCell ⟨w.heap.size, 0, none⟩ (.int .i64 0)).setCell ⟨w.heap.size, 1, none⟩ (.int .i64 0)).ownsRow (w1.heap.size + 1 + 1) 35 3 (.slice ad3 I.length c3) I.length (insVs I) := ownsRow_same (ownsRow_same H3.out.1 (fun k hk1 _ => Below.heap_setCell _ _ _ _ (by show k ≠ w.heap.size; omega))) (fun k hk1 _ => Below.heap_setCell _ _ _ _ (by show k ≠ w.heap.size; omega))
    exact owns_low ho (by omega)

/-- What Image answers, of any body. -/
theorem Image_any (hall : ∀ W, Ready W → ListOk W 1048576) (a : List St) (cx cy : Int) (w : World) (v : Value) (p : Nat → Prop) (bl : List Nat) (hr : Ready w) (hE : EndsIn w) (hK : CompsIn w) (h : St.SlQ p w a v bl ∧ bl.Nodup ∧ St.bulkAll a ≤ 1048576) (hx : checkV a = .agg #[.int .i64 cx, .int .i64 cy]) : Calls Tryd.prog 30 #[v] w (ImP (imF a cx cy) w) := by
  by_cases h0 : cx = 0
  · subst h0
    exact Image_good hall a cy w v p bl hr hE hK h hx
  · exact Image_bad hall a cx cy w v p bl hr h hx h0

end Go.Proofs.YtgemadoieielcacDoor.B
namespace Go.Proofs.YtgemadoieielcacDoor.B
open Go.ChangeShapes Go.WideShapes Go.ChangeAt Go.RowKit

theorem insVs_one : ∀ l : List Io, ∀ u ∈ insVs l, u.oneCell' = true
  | [], u, h => by cases h
  | x :: t, u, h => by
    simp only [insVs, List.mem_cons] at h
    rcases h with rfl | rfl | rfl | h
    · rfl
    · rfl
    · rfl
    · exact insVs_one t u h

/-- An append of one row to another. -/
theorem wp_appI {w : World} {ops : Array Oper} {rest : List Oper} {o : Oper} {a : Act} {Q : Exit → Act → World → Prop} (hgd : o.guard = none) (s x : Operand)
    (ho : o.op = .call { callee := .builtin .append, args := #[s, x], argTypes := #[22, 22] }) (B B' : Nat) (v vx : Value) (l l2 : List Io) (n m : Nat) (hn : l.length = n) (hm : l2.length = m) (hs : a.eval s = v) (hx : a.eval x = vx)
    (hown : w.ownsRow B 35 3 v n (insVs l)) (hown2 : w.ownsRow B' 35 3 vx m (insVs l2)) (hB : B ≤ w.heap.size) (hl : n + m ≤ 4000000)
    (h : ∀ ad c w', w'.ownsRow B 35 3 (.slice ad (n + m) c) (n + m) (insVs (l ++ l2)) → w.grownBy w' v.ownBlock → ((Value.slice ad (n + m) c).ownBlock = v.ownBlock ∨ ∀ k, (Value.slice ad (n + m) c).ownBlock = some k → w.heap.size ≤ k) → wpList Tryd.prog ops Q rest (a.put o.dst (.slice ad (n + m) c)) w') : wpList Tryd.prog ops Q (o :: rest) a w := by
  subst hn hm
  obtain ⟨i0, hi0, hz0, hz1, hz2⟩ := info_parts infoN
  obtain ⟨v4, w4, hrun, ho4, hg4, hv4⟩ := append_two (P := Tryd.prog) w B B' 22 o.type 35 i0 _ 3 24 Tryd.underlying22 hi0 hz0 hz1 hz2 rfl (by decide) v l.length (insVs l) hown vx l2.length (insVs l2) hown2 (insVs_one l2) (by unfold maxLen; omega) (by omega) hB
  obtain ⟨vad, vcap, rfl⟩ := owns_value ho4
  refine append_known hgd s x 22 ho hs hx hrun ?_
  exact h vad vcap w4 (by rw [insVs_append]; exact ho4) hg4 hv4

/-- What an own row's cells are. -/
theorem insR {w : World} {B n : Nat} {v : Value} {l : List Io} (h : w.ownsRow B 35 3 v n (insVs l)) (hn : n = l.length) : InSl w l v := by
  subst hn
  obtain ⟨hl, ⟨rfl, h2⟩ | ⟨g, cap, cur, rfl, hB, hg, hc, hm, hs, ht⟩⟩ := h
  · have : l = [] := List.length_eq_zero_iff.1 h2
    subst this
    exact ⟨none, 0, rfl, .inl rfl⟩
  · refine ⟨_, cap, rfl, .inr ⟨g, 0, rfl, fun j hj => ?_⟩⟩
    have key : ∀ i u, (insVs l)[i]? = some u → w.cell? ⟨g, 0 + i, none⟩ = some u := fun i u hi => by
      have hi2 : i < (insVs l).length := (List.getElem?_eq_some_iff.1 hi).1
      rw [insVs_len] at hi2
      rw [← ht, List.getElem?_take_of_lt (by omega)] at hi
      unfold World.cell?
      rw [hg]
      simpa using hi
    have three : ∀ (l : List Io) (j : Nat), j < l.length → (insVs l)[j * 3]? = some (.int .i64 (l.getD j in0).op) ∧ (insVs l)[j * 3 + 1]? = some (.int .i64 (l.getD j in0).a) ∧ (insVs l)[j * 3 + 2]? = some (.int .i64 (l.getD j in0).b) := by
      intro l
      induction l with
      | nil => intro j h; simp at h
      | cons x t ih =>
        intro j h
        cases j with
        | zero => exact ⟨rfl, rfl, rfl⟩
        | succ j =>
          have := ih j (by simpa using h)
          rw [show (j + 1) * 3 = j * 3 + 1 + 1 + 1 by omega]
          simpa [insVs] using this
    obtain ⟨t1, t2, t3⟩ := three l j hj
    exact ⟨key _ _ t1, key _ _ t2, key _ _ t3⟩

/-- Jumps that lie so far below at most. -/
def JB (m : Int) (l : List Io) : Prop := ∀ x ∈ l, ((x.op = 11 ∨ x.op = 12) → 0 ≤ x.a ∧ x.a ≤ m) ∧ (x.op = 14 → 0 ≤ x.b ∧ x.b ≤ m)

theorem getD_mem {l : List Io} {j : Nat} (h : j < l.length) : l.getD j in0 ∈ l := by
  rw [List.getD_eq_getElem?_getD, List.getElem?_eq_getElem h]
  exact List.getElem_mem _

theorem mv_take {l : List Io} {d : Int} {j : Nat} (h : j < l.length) : mv d (l.take j) ++ [mvI d (l.getD j in0)] = mv d (l.take (j + 1)) := by
  rw [List.take_add_one, mv_append, List.getD_eq_getElem?_getD, List.getElem?_eq_getElem h]
  rfl

set_option maxRecDepth 20000 in
set_option maxHeartbeats 400000 in
theorem moved_any (w : World) (l : List Io) (v : Value) (d : Int) (hI : InSl w l v) (hJ : JB 1000000000 l) (hd : 0 ≤ d ∧ d ≤ 1000000000) (hl : l.length ≤ 1000000) : Calls Tryd.prog 130 #[v, .int .i64 d] w fun r w' => ∃ v', r = .returned v' ∧ w'.ownsRow w.heap.size 35 3 v' l.length (insVs (mv d l)) ∧ Below w.heap.size w w' := by
  obtain ⟨ad, c, rfl, hrow⟩ := hI
  have HR : Hid ((l = [] ∨ ∃ b o, ad = some ⟨b, o, none⟩ ∧ ∀ j, j < l.length → w.cell? ⟨b, o + j * 3, none⟩ = some (.int .i64 (l.getD j in0).op) ∧ w.cell? ⟨b, o + j * 3 + 1, none⟩ = some (.int .i64 (l.getD j in0).a) ∧ w.cell? ⟨b, o + j * 3 + 2, none⟩ = some (.int .i64 (l.getD j in0).b)) ∧ JB 1000000000 l) := ⟨hrow, hJ⟩
  clear hrow hJ
  go_enter Tryd.func130, Tryd.ntmps130
  go_wp2_with fail
  go_loopw [5, 10] (fun x i wr => ∃ (j : Nat) (oad : Option Addr) (oc : Nat), j ≤ l.length ∧ i = .int .i64 j ∧ x = .slice oad j oc ∧ wr.ownsRow w.heap.size 35 3 (.slice oad j oc) j (insVs (mv d (l.take j))) ∧ Below w.heap.size w wr) (fun _ i _ => l.length - (intOf i).toNat)
  case atStart => exact ⟨0, none, 0, Nat.zero_le _, rfl, rfl, World.ownsRow_nil _ _ _ _, Below.refl _ _⟩
  case round =>
    obtain ⟨j, oad, oc, hj, rfl, rfl, ho, hb⟩ := hrel
    by_cases hjl : j < l.length
    · have hji : (j : Int) < (l.length : Int) := by omega
      rcases HR.out.1 with h | ⟨b, o, rfl, hrow⟩
      · rw [h] at hjl; simp at hjl
      obtain ⟨s0, s1, s2⟩ := hrow j hjl
      replace s0 := below_cell hb s0
      replace s1 := below_cell hb s1
      replace s2 := below_cell hb s2
      have lb : b < wr.heap.size := World.block_lt_of_cell? _ _ s0
      have hJ := HR.out.2 _ (getD_mem hjl)
      have HT : Hid (mv d (l.take j) ++ [mvI d (l.getD j in0)] = mv d (l.take (j + 1))) := mv_take hjl
      have ltk : (mv d (l.take j)).length = j := by rw [mv_len, List.length_take]; omega
      have HO : Hid (wr.ownsRow w.heap.size 35 3 (.slice oad j oc) j (insVs (mv d (l.take j))) ∧ Below w.heap.size w wr) := ⟨ho, hb⟩
      rcases hx : l.getD j in0 with ⟨op, xa, xb⟩
      rw [hx] at s0 s1 s2 hJ HT
      dsimp only at s0 s1 s2 hJ
      clear hrow ho hb hx
      obtain ⟨L, hL⟩ : ∃ L, mv d (l.take j) = L := ⟨_, rfl⟩
      rw [hL] at HT ltk HO
      clear hL
      have hsz := HO.out.2.size
      by_cases h1 : op = 11 ∨ op = 12
      · have hJ1 := hJ.1 h1
        have hm : mvI d ⟨op, xa, xb⟩ = ⟨op, xa + d, xb⟩ := if_pos h1
        rw [hm] at HT
        rcases h1 with rfl | rfl
        · have hz := hJ1
          go_wp2_with (at_builtin; refine wp_pushI rfl (.tmp 31) (.tmp 33) rfl w.heap.size (.slice oad j oc) L 11 (xa + d) xb (wr.heap.size + 1) j (by simp) ltk rfl rfl (ownsRow_same HO.out.1 (fun k hk1 hk2 => (below_new wr (.cells #[.int .i64 11, .int .i64 (xa + d), .int .i64 xb] 35)).block k hk2)) (by simp; omega) (by omega) ?_; intro ad4 c4 w4 ho4 hg4 hv4; have H4 : Hid (w4.ownsRow w.heap.size 35 3 (.slice ad4 (j + 1) c4) (j + 1) (insVs (L ++ [⟨11, (xa + d), xb⟩])) ∧ Below w.heap.size w w4) := ⟨ho4, (((HO.out.2.alloc hsz _).alloc (by simp; omega) _).grown hg4 (by simp; omega) (fun k hk => (HO.out.1.lt k hk).1))⟩; clear ho4 hg4 hv4)
          have hq := H4.out
          rw [HT.out] at hq
          exact ⟨⟨j + 1, ad4, c4, by omega, by simp, rfl, hq.1, hq.2⟩, by simp [intOf]; omega⟩
        · have hz := hJ1
          go_wp2_with (at_builtin; refine wp_pushI rfl (.tmp 31) (.tmp 33) rfl w.heap.size (.slice oad j oc) L 12 (xa + d) xb (wr.heap.size + 1) j (by simp) ltk rfl rfl (ownsRow_same HO.out.1 (fun k hk1 hk2 => (below_new wr (.cells #[.int .i64 12, .int .i64 (xa + d), .int .i64 xb] 35)).block k hk2)) (by simp; omega) (by omega) ?_; intro ad4 c4 w4 ho4 hg4 hv4; have H4 : Hid (w4.ownsRow w.heap.size 35 3 (.slice ad4 (j + 1) c4) (j + 1) (insVs (L ++ [⟨12, (xa + d), xb⟩])) ∧ Below w.heap.size w w4) := ⟨ho4, (((HO.out.2.alloc hsz _).alloc (by simp; omega) _).grown hg4 (by simp; omega) (fun k hk => (HO.out.1.lt k hk).1))⟩; clear ho4 hg4 hv4)
          have hq := H4.out
          rw [HT.out] at hq
          exact ⟨⟨j + 1, ad4, c4, by omega, by simp, rfl, hq.1, hq.2⟩, by simp [intOf]; omega⟩
      by_cases h2 : op = 14
      · subst h2
        have hJ2 := hJ.2 rfl
        have hm : mvI d ⟨14, xa, xb⟩ = ⟨14, xa, xb + d⟩ := rfl
        rw [hm] at HT
        go_wp2_with (at_builtin; refine wp_pushI rfl (.tmp 31) (.tmp 33) rfl w.heap.size (.slice oad j oc) L 14 xa (xb + d) (wr.heap.size + 1) j (by simp) ltk rfl rfl (ownsRow_same HO.out.1 (fun k hk1 hk2 => (below_new wr (.cells #[.int .i64 14, .int .i64 xa, .int .i64 (xb + d)] 35)).block k hk2)) (by simp; omega) (by omega) ?_; intro ad4 c4 w4 ho4 hg4 hv4; have H4 : Hid (w4.ownsRow w.heap.size 35 3 (.slice ad4 (j + 1) c4) (j + 1) (insVs (L ++ [⟨14, xa, (xb + d)⟩])) ∧ Below w.heap.size w w4) := ⟨ho4, (((HO.out.2.alloc hsz _).alloc (by simp; omega) _).grown hg4 (by simp; omega) (fun k hk => (HO.out.1.lt k hk).1))⟩; clear ho4 hg4 hv4)
        have hq := H4.out
        rw [HT.out] at hq
        exact ⟨⟨j + 1, ad4, c4, by omega, by simp, rfl, hq.1, hq.2⟩, by simp [intOf]; omega⟩
      · have hm : mvI d ⟨op, xa, xb⟩ = ⟨op, xa, xb⟩ := mvI_id ⟨fun e => h1 (.inl e), fun e => h1 (.inr e), h2⟩
        rw [hm] at HT
        have h11 : ¬ op = 11 := fun e => h1 (.inl e)
        have h12 : ¬ op = 12 := fun e => h1 (.inr e)
        have b11 : (op == 11) = false := by simpa using h11
        have b12 : (op == 12) = false := by simpa using h12
        have b14 : (op == 14) = false := by simpa using h2
        go_wp2_with (at_builtin; refine wp_pushI rfl (.tmp 31) (.tmp 33) rfl w.heap.size (.slice oad j oc) L op xa xb (wr.heap.size + 1) j (by simp) ltk rfl rfl (ownsRow_same HO.out.1 (fun k hk1 hk2 => (below_new wr (.cells #[.int .i64 op, .int .i64 xa, .int .i64 xb] 35)).block k hk2)) (by simp; omega) (by omega) ?_; intro ad4 c4 w4 ho4 hg4 hv4; have H4 : Hid (w4.ownsRow w.heap.size 35 3 (.slice ad4 (j + 1) c4) (j + 1) (insVs (L ++ [⟨op, xa, xb⟩])) ∧ Below w.heap.size w w4) := ⟨ho4, (((HO.out.2.alloc hsz _).alloc (by simp; omega) _).grown hg4 (by simp; omega) (fun k hk => (HO.out.1.lt k hk).1))⟩; clear ho4 hg4 hv4)
        have hq := H4.out
        rw [HT.out] at hq
        exact ⟨⟨j + 1, ad4, c4, by omega, by simp, rfl, hq.1, hq.2⟩, by simp [intOf]; omega⟩
    · have hje : j = l.length := by omega
      subst hje
      rw [List.take_length] at ho
      have HO : Hid (wr.ownsRow w.heap.size 35 3 (.slice oad l.length oc) l.length (insVs (mv d l)) ∧ Below w.heap.size w wr) := ⟨ho, hb⟩
      clear ho hb
      go_wp2_with fail
      go_ret
      exact ⟨_, rfl, HO.out.1, HO.out.2⟩

end Go.Proofs.YtgemadoieielcacDoor.B
namespace Go.Proofs.YtgemadoieielcacDoor.B
open Go.ChangeShapes Go.WideShapes Go.ChangeAt Go.RowKit

/-- A row of instructions of one's own. -/
def Ow (w : World) (B : Nat) (v : Value) (l : List Io) : Prop := w.ownsRow B 35 3 v l.length (insVs l)

theorem Ow.shape {w : World} {B : Nat} {v : Value} {l : List Io} (h : Ow w B v l) : ∃ ad c, v = .slice ad l.length c := owns_value h
theorem Ow.below {w w' : World} {B : Nat} {v : Value} {l : List Io} (h : Ow w B v l) (hb : Below w.heap.size w w') : Ow w' B v l := ownsRow_same h (fun k _ hk => hb.block k hk)
theorem Ow.low {w : World} {B B' : Nat} {v : Value} {l : List Io} (h : Ow w B v l) (hb : B' ≤ B) : Ow w B' v l := owns_low h hb
theorem Ow.sl {w : World} {B : Nat} {v : Value} {l : List Io} (h : Ow w B v l) : InSl w l v := insR h rfl
theorem Ow.nil (w : World) (B : Nat) : Ow w B (.slice none 0 0) [] := World.ownsRow_nil _ _ _ _
theorem Ow.lit (w : World) (l : List Io) (g : Nat) (hg : w.heap.size = g) (hl : l.length ≤ 100) : Ow (w.alloc (.cells (insVs l).toArray 35)) w.heap.size (.slice (some ⟨g, 0, none⟩) l.length l.length) l := by
  subst hg
  refine ⟨insVs_len l, .inr ⟨w.heap.size, l.length, (insVs l).toArray, rfl, Nat.le_refl _, heap_alloc_new _ _, Nat.le_refl _, by unfold maxLen; omega, by simp [insVs_len], ?_⟩⟩
  have e : l.length * 3 = (insVs l).length := (insVs_len l).symm
  rw [e]
  simp
/-- It stays where another row grows. -/
theorem Ow.grown {w w' : World} {B : Nat} {v : Value} {l : List Io} {b : Option Nat} (h : Ow w B v l) (hg : w.grownBy w' b) (hv : ∀ k, v.ownBlock = some k → b ≠ some k) : Ow w' B v l := by
  obtain ⟨h1, h2 | ⟨g, cap, cur, rfl, q2, q3, q4⟩⟩ := h
  · exact ⟨h1, .inl h2⟩
  · exact ⟨h1, .inr ⟨g, cap, cur, rfl, q2, (hg.block g (Array.getElem?_eq_some_iff.1 q3).1 (fun e => hv g rfl e.symm)).trans q3, q4⟩⟩

/-- An append, as rows. -/
theorem wp_app {w : World} {ops : Array Oper} {rest : List Oper} {o : Oper} {a : Act} {Q : Exit → Act → World → Prop} (hgd : o.guard = none) (s x : Operand)
    (ho : o.op = .call { callee := .builtin .append, args := #[s, x], argTypes := #[22, 22] }) (B B' : Nat) (v vx : Value) (l l2 : List Io) (hs : a.eval s = v) (hx : a.eval x = vx)
    (hown : Ow w B v l) (hown2 : Ow w B' vx l2) (hB : B ≤ w.heap.size) (hl : l.length + l2.length ≤ 4000000)
    (h : ∀ v' w', Ow w' B v' (l ++ l2) → w.grownBy w' v.ownBlock → (v'.ownBlock = v.ownBlock ∨ ∀ k, v'.ownBlock = some k → w.heap.size ≤ k) → (∃ ad c, v' = .slice ad (l.length + l2.length) c) → wpList Tryd.prog ops Q rest (a.put o.dst v') w') : wpList Tryd.prog ops Q (o :: rest) a w := by
  refine wp_appI hgd s x ho B B' v vx l l2 l.length l2.length rfl rfl hs hx hown hown2 hB hl ?_
  intro ad c w' h1 h2 h3
  refine h (.slice ad (l.length + l2.length) c) w' ?_ h2 h3 ⟨ad, c, rfl⟩
  unfold Ow
  rw [List.length_append]
  exact h1

set_option maxRecDepth 20000 in
set_option maxHeartbeats 400000 in
theorem join_any (w : World) (a b : List Io) (va vb : Value) (Ba : Nat) (ha : Ow w Ba va a) (hb : InSl w b vb) (hJ : JB 1000000000 b) (hl : a.length + b.length ≤ 900000) : Calls Tryd.prog 99 #[va, vb] w fun r w' => ∃ v', r = .returned v' ∧ Ow w' w.heap.size v' (jn a b) ∧ Below w.heap.size w w' := by
  obtain ⟨aad, ac, rfl⟩ := ha.shape
  have hb' := hb
  obtain ⟨bad, bc, rfl, -⟩ := hb'
  have HI : Hid (Ow w Ba (.slice aad a.length ac) a ∧ InSl w b (.slice bad b.length bc) ∧ JB 1000000000 b) := ⟨ha, hb, hJ⟩
  have ho0 : Ow (w.alloc (.cells #[] 35)) w.heap.size (.slice (some ⟨w.heap.size, 0, none⟩) 0 0) [] := Ow.lit w [] _ rfl (by simp)
  have HO : Hid (Ow (w.alloc (.cells #[] 35)) w.heap.size (.slice (some ⟨w.heap.size, 0, none⟩) 0 0) []) := ho0
  clear ha hb hJ ho0
  go_enter Tryd.func99, Tryd.ntmps99
  go_wp2_with (first
    | (go_at_call 130; refine (moved_any _ b _ (a.length : Int) (HI.out.2.1.below H1.out.2) HI.out.2.2 (by omega) (by omega)).mono ?_; rintro r w2 ⟨v2, rfl, ho2, hb2⟩; have ho2' : Ow w2 w1.heap.size v2 (mv a.length b) := (by unfold Ow; rw [mv_len]; exact ho2); obtain ⟨ad2, c2, hv2⟩ := ho2'.shape; subst hv2; have H2 : Hid (Ow w2 w1.heap.size (.slice ad2 (mv a.length b).length c2) (mv a.length b) ∧ Ow w2 w.heap.size (.slice ad1 a.length c1) a ∧ Below w.heap.size w w2) := ⟨ho2', H1.out.1.below hb2, below_seq H1.out.2 hb2⟩; clear ho2 ho2' hb2)
    | (at_builtin; refine wp_app rfl (.tmp 5) (.tmp 6) rfl w.heap.size Ba _ _ [] a rfl rfl HO.out (HI.out.1.below (below_new _ _)) (by simp) (by simp; omega) ?_; intro v1 w1 ho1 hg1 _ hsh1; obtain ⟨ad1, c1, hv1⟩ := hsh1; rw [List.nil_append] at ho1; rw [List.length_nil, Nat.zero_add] at hv1; subst hv1; have H1 : Hid (Ow w1 w.heap.size (.slice ad1 a.length c1) a ∧ Below w.heap.size w w1) := ⟨ho1, ((Below.refl _ _).alloc (Nat.le_refl _) _).grown hg1 (by simp) (fun k hk => (HO.out.lt k hk).1)⟩; clear ho1 hg1)
    | (at_builtin; refine wp_app rfl (.tmp 7) (.tmp 11) rfl w.heap.size w1.heap.size _ _ a (mv a.length b) rfl rfl H2.out.2.1 H2.out.1 H2.out.2.2.size (by rw [mv_len]; omega) ?_; intro v3 w3 ho3 hg3 _ hsh3; obtain ⟨ad3, c3, hv3⟩ := hsh3; subst hv3; have H3 : Hid (Ow w3 w.heap.size (.slice ad3 (a.length + (mv a.length b).length) c3) (jn a b) ∧ Below w.heap.size w w3) := ⟨ho3, H2.out.2.2.grown hg3 H2.out.2.2.size (fun k hk => (H2.out.2.1.lt k hk).1)⟩; clear ho3 hg3))
  go_ret
  exact ⟨_, rfl, H3.out.1, H3.out.2⟩

set_option maxRecDepth 20000 in
set_option maxHeartbeats 400000 in
theorem exprPiece_any (N : Nat) : ∀ (e : Ex) (w : World) (v : Value), e.nodes < N → N ≤ 100001 → e.In w v → e.Lay →
    Calls Tryd.prog 131 #[v] w fun r w' => ∃ v', r = .returned v' ∧ Ow w' w.heap.size v' e.pc ∧ Below w.heap.size w w' := by
  induction N with
  | zero => intro e w v h; omega
  | succ N ih =>
    intro e w v hN hNN hin hlay
    rcases e with ⟨k, n, a⟩
    rw [Ex.In] at hin
    obtain ⟨ad, c, rfl, hrow⟩ := hin
    rw [Ex.nodes] at hN
    rw [Ex.Lay] at hlay
    have hal := length_le_nodesAll a
    have HR : Hid ((a = [] ∨ ∃ b o, ad = some ⟨b, o, none⟩ ∧ Ex.Row w a b o) ∧ Ex.LayAll a) := ⟨hrow, hlay.2⟩
    have hk := hlay.1
    have IH : Hid _ := ih
    clear hrow hlay ih
    go_enter Tryd.func131, Tryd.ntmps131
    go_wp2_with fail
    obtain ⟨W1, hW1⟩ : ∃ W1, w.alloc (.cells #[.int .i64 k, .int .i64 n, .slice ad a.length c] 119) = W1 := ⟨_, rfl⟩
    have HW1 : Hid (Below w.heap.size w W1 ∧ W1.heap[w.heap.size]? = some (.cells #[.int .i64 k, .int .i64 n, .slice ad a.length c] 119 (0, 0)) ∧ W1.heap.size = w.heap.size + 1) := by rw [← hW1]; exact ⟨below_new _ _, heap_alloc_new _ _, by simp⟩
    rw [hW1]
    clear hW1
    go_loopw [3, 9] (fun x i wr => ∃ (j : Nat) (oad : Option Addr) (oc : Nat), j ≤ a.length ∧ i = .int .i64 j ∧ x = .slice oad (Ex.pcAll (a.take j)).length oc ∧ Ow wr W1.heap.size (.slice oad (Ex.pcAll (a.take j)).length oc) (Ex.pcAll (a.take j)) ∧ Below W1.heap.size W1 wr) (fun _ i _ => a.length - (intOf i).toNat)
    case atStart => exact ⟨0, none, 0, Nat.zero_le _, rfl, rfl, Ow.nil _ _, Below.refl _ _⟩
    case round =>
      obtain ⟨j, oad, oc, hj, rfl, rfl, ho, hb⟩ := hrel
      by_cases hjl : j < a.length
      · have hji : (j : Int) < (a.length : Int) := by omega
        rcases HR.out.1 with h | ⟨b, o, rfl, hrow⟩
        · rw [h] at hjl; simp at hjl
        obtain ⟨ek, en, ead, em, ec, r0, r1, r2, hin⟩ := hrow.shape hjl
        have hbw := below_seq HW1.out.1 hb
        have r0' := below_cell hbw r0
        have r1' := below_cell hbw r1
        have r2' := below_cell hbw r2
        have lb : b < wr.heap.size := World.block_lt_of_cell? _ _ r0'
        have hnt := Ex.nodesAll_take j hjl
        have hp1 := Ex.pcAll_len (a.take j)
        have hp2 := Ex.pc_len a[j]
        have HC := IH.out a[j] (wr.alloc (.cells #[.int .i64 ek, .int .i64 en, .slice ead em ec] 119)) _ (by omega) (by omega) (Ex.In.below (below_seq hbw (below_new _ _)) _ hin) (HR.out.2.at j hjl)
        have HT : Hid (Ex.pcAll (a.take j) ++ (a[j]).pc = Ex.pcAll (a.take (j + 1))) := Ex.pcAll_take j hjl
        have HO : Hid (Ow wr W1.heap.size (.slice oad (Ex.pcAll (a.take j)).length oc) (Ex.pcAll (a.take j)) ∧ Below W1.heap.size W1 wr) := ⟨ho, hb⟩
        obtain ⟨L, hL⟩ : ∃ L, Ex.pcAll (a.take j) = L := ⟨_, rfl⟩
        obtain ⟨L2, hL2⟩ : ∃ L2, (a[j]).pc = L2 := ⟨_, rfl⟩
        rw [hL, hL2] at HT
        rw [hL] at HO hp1
        rw [hL2] at HC hp2
        simp only [hL]
        clear r0 r1 r2 hrow hin ho hb hbw hL hL2
        go_wp2_with (first
          | (go_at_call 131; refine HC.mono ?_; rintro r w2 ⟨v2, rfl, ho2, hb2⟩; obtain ⟨ad2, c2, hv2⟩ := ho2.shape; subst hv2; have H2 : Hid (Ow w2 (wr.alloc (.cells #[.int .i64 ek, .int .i64 en, .slice ead em ec] 119)).heap.size (.slice ad2 L2.length c2) L2 ∧ Ow w2 W1.heap.size (.slice oad L.length oc) L ∧ Below W1.heap.size W1 w2) := ⟨ho2, HO.out.1.below (below_seq (below_new _ _) hb2), below_seq HO.out.2 (below_seq (below_new _ _) hb2)⟩; clear ho2 hb2 HC)
          | (at_builtin; refine wp_app rfl (.tmp 13) (.tmp 15) rfl W1.heap.size _ _ _ L L2 rfl rfl H2.out.2.1 H2.out.1 H2.out.2.2.size (by omega) ?_; intro v3 w3 ho3 hg3 _ hsh3; obtain ⟨ad3, c3, hv3⟩ := hsh3; subst hv3; have H3 : Hid (Ow w3 W1.heap.size (.slice ad3 (L.length + L2.length) c3) (L ++ L2) ∧ Below W1.heap.size W1 w3) := ⟨ho3, H2.out.2.2.grown hg3 H2.out.2.2.size (fun k hk => (H2.out.2.1.lt k hk).1)⟩; clear ho3 hg3))
        have h3 := H3.out
        rw [← List.length_append, HT.out] at h3
        have hlen : L.length + L2.length = (Ex.pcAll (a.take (j + 1))).length := by rw [← HT.out, List.length_append]
        exact ⟨⟨j + 1, ad3, c3, by omega, by simp, by rw [hlen], h3.1, h3.2⟩, by simp [intOf]; omega⟩
      · have hje : j = a.length := by omega
        subst hje
        rw [List.take_length] at ho
        simp only [List.take_length]
        have hblk := (hb.block w.heap.size (by have := HW1.out.2.2; omega)).trans HW1.out.2.1
        obtain ⟨d1, e1, l1⟩ := cells_of (l := [_, _, _]) hblk
        have d10 := d1 0 _ rfl
        have d11 := d1 1 _ rfl
        have hpl := Ex.pcAll_len a
        have HO : Hid (Ow wr W1.heap.size (.slice oad (Ex.pcAll a).length oc) (Ex.pcAll a) ∧ Below W1.heap.size W1 wr) := ⟨ho, hb⟩
        obtain ⟨L, hL⟩ : ∃ L, Ex.pcAll a = L := ⟨_, rfl⟩
        rw [hL] at HO hpl
        simp only [hL]
        have HL : Hid (Ex.pcAll a = L) := hL
        clear d1 e1 hblk ho hb hL
        rcases hk with ⟨h | h | h, ha0⟩ | ⟨h | h | h | h, hn0⟩
        · subst h
          go_wp2_with fail
          go_ret
          refine ⟨_, rfl, ?_, below_seq HW1.out.1 (HO.out.2.alloc HO.out.2.size _)⟩
          have hp : (Ex.mk 1 n a).pc = [⟨1, n, 0⟩] := by simp [Ex.pc]
          rw [hp]
          exact (Ow.lit wr [⟨1, n, 0⟩] _ rfl (by simp)).low (by have := HO.out.2.size; have := HW1.out.2.2; omega)
        · subst h
          go_wp2_with fail
          go_ret
          refine ⟨_, rfl, ?_, below_seq HW1.out.1 (HO.out.2.alloc HO.out.2.size _)⟩
          have hp : (Ex.mk 2 n a).pc = [⟨2, n, 0⟩] := by simp [Ex.pc]
          rw [hp]
          exact (Ow.lit wr [⟨2, n, 0⟩] _ rfl (by simp)).low (by have := HO.out.2.size; have := HW1.out.2.2; omega)
        · subst h
          go_wp2_with fail
          go_ret
          refine ⟨_, rfl, ?_, below_seq HW1.out.1 (HO.out.2.alloc HO.out.2.size _)⟩
          have hp : (Ex.mk 3 n a).pc = [⟨9, n, 0⟩] := by simp [Ex.pc]
          rw [hp]
          exact (Ow.lit wr [⟨9, n, 0⟩] _ rfl (by simp)).low (by have := HO.out.2.size; have := HW1.out.2.2; omega)
        · subst h
          subst hn0
          go_wp2_with (at_builtin; refine wp_app rfl (.tmp 37) (.tmp 42) rfl W1.heap.size wr.heap.size _ _ L [⟨1, 0, 0⟩, ⟨1, 1, 0⟩, ⟨5, 0, 0⟩, ⟨6, 0, 0⟩] rfl rfl (HO.out.1.below (below_new _ _)) (Ow.lit wr [⟨1, 0, 0⟩, ⟨1, 1, 0⟩, ⟨5, 0, 0⟩, ⟨6, 0, 0⟩] _ rfl (by simp)) (by have := HO.out.2.size; simp; omega) (by simp; omega) ?_; intro v3 w3 ho3 hg3 _ hsh3; obtain ⟨ad3, c3, hv3⟩ := hsh3; subst hv3; have H3 : Hid (Ow w3 W1.heap.size (.slice ad3 (L.length + 4) c3) (L ++ [⟨1, 0, 0⟩, ⟨1, 1, 0⟩, ⟨5, 0, 0⟩, ⟨6, 0, 0⟩]) ∧ Below W1.heap.size W1 w3) := ⟨ho3, (HO.out.2.alloc HO.out.2.size _).grown hg3 (by have := HO.out.2.size; simp; omega) (fun k hk => (HO.out.1.lt k hk).1)⟩; clear ho3 hg3)
          go_ret
          refine ⟨_, rfl, ?_, below_seq HW1.out.1 H3.out.2⟩
          have hp : (Ex.mk 4 0 a).pc = L ++ [⟨1, 0, 0⟩, ⟨1, 1, 0⟩, ⟨5, 0, 0⟩, ⟨6, 0, 0⟩] := by rw [← HL.out]; simp [Ex.pc]
          rw [hp]
          exact H3.out.1.low (by have := HW1.out.2.2; omega)
        · subst h
          subst hn0
          go_wp2_with (at_builtin; refine wp_app rfl (.tmp 44) (.tmp 49) rfl W1.heap.size wr.heap.size _ _ L [⟨4, 0, 0⟩] rfl rfl (HO.out.1.below (below_new _ _)) (Ow.lit wr [⟨4, 0, 0⟩] _ rfl (by simp)) (by have := HO.out.2.size; simp; omega) (by simp; omega) ?_; intro v3 w3 ho3 hg3 _ hsh3; obtain ⟨ad3, c3, hv3⟩ := hsh3; subst hv3; have H3 : Hid (Ow w3 W1.heap.size (.slice ad3 (L.length + 1) c3) (L ++ [⟨4, 0, 0⟩]) ∧ Below W1.heap.size W1 w3) := ⟨ho3, (HO.out.2.alloc HO.out.2.size _).grown hg3 (by have := HO.out.2.size; simp; omega) (fun k hk => (HO.out.1.lt k hk).1)⟩; clear ho3 hg3)
          go_ret
          refine ⟨_, rfl, ?_, below_seq HW1.out.1 H3.out.2⟩
          have hp : (Ex.mk 5 0 a).pc = L ++ [⟨4, 0, 0⟩] := by rw [← HL.out]; simp [Ex.pc]
          rw [hp]
          exact H3.out.1.low (by have := HW1.out.2.2; omega)
        · subst h
          subst hn0
          go_wp2_with (at_builtin; refine wp_app rfl (.tmp 44) (.tmp 49) rfl W1.heap.size wr.heap.size _ _ L [⟨5, 0, 0⟩] rfl rfl (HO.out.1.below (below_new _ _)) (Ow.lit wr [⟨5, 0, 0⟩] _ rfl (by simp)) (by have := HO.out.2.size; simp; omega) (by simp; omega) ?_; intro v3 w3 ho3 hg3 _ hsh3; obtain ⟨ad3, c3, hv3⟩ := hsh3; subst hv3; have H3 : Hid (Ow w3 W1.heap.size (.slice ad3 (L.length + 1) c3) (L ++ [⟨5, 0, 0⟩]) ∧ Below W1.heap.size W1 w3) := ⟨ho3, (HO.out.2.alloc HO.out.2.size _).grown hg3 (by have := HO.out.2.size; simp; omega) (fun k hk => (HO.out.1.lt k hk).1)⟩; clear ho3 hg3)
          go_ret
          refine ⟨_, rfl, ?_, below_seq HW1.out.1 H3.out.2⟩
          have hp : (Ex.mk 6 0 a).pc = L ++ [⟨5, 0, 0⟩] := by rw [← HL.out]; simp [Ex.pc]
          rw [hp]
          exact H3.out.1.low (by have := HW1.out.2.2; omega)
        · subst h
          subst hn0
          go_wp2_with (at_builtin; refine wp_app rfl (.tmp 44) (.tmp 49) rfl W1.heap.size wr.heap.size _ _ L [⟨6, 0, 0⟩] rfl rfl (HO.out.1.below (below_new _ _)) (Ow.lit wr [⟨6, 0, 0⟩] _ rfl (by simp)) (by have := HO.out.2.size; simp; omega) (by simp; omega) ?_; intro v3 w3 ho3 hg3 _ hsh3; obtain ⟨ad3, c3, hv3⟩ := hsh3; subst hv3; have H3 : Hid (Ow w3 W1.heap.size (.slice ad3 (L.length + 1) c3) (L ++ [⟨6, 0, 0⟩]) ∧ Below W1.heap.size W1 w3) := ⟨ho3, (HO.out.2.alloc HO.out.2.size _).grown hg3 (by have := HO.out.2.size; simp; omega) (fun k hk => (HO.out.1.lt k hk).1)⟩; clear ho3 hg3)
          go_ret
          refine ⟨_, rfl, ?_, below_seq HW1.out.1 H3.out.2⟩
          have hp : (Ex.mk 7 0 a).pc = L ++ [⟨6, 0, 0⟩] := by rw [← HL.out]; simp [Ex.pc]
          rw [hp]
          exact H3.out.1.low (by have := HW1.out.2.2; omega)

end Go.Proofs.YtgemadoieielcacDoor.B
