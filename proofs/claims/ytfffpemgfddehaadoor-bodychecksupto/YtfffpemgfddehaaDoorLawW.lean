import Derived.Test.YtfffpemgfddehaaDoorPlain
import Derived.Test.YtfffpemgfddehaaDoorStmtB
import Derived.Test.YtfffpemgfddehaaDoorSame
import Derived.Deep.DeepCutAuto
import Derived.Deep.CutRange
namespace Go.Proofs.YtfffpemgfddehaaDoor
open Go.ChangeShapes Go.WideShapes Go.ChangeAt Go.RowKit

/-- A body of a kind that is none. -/
def eightT : List St := [.mk 8 0 ex0 0 ex0 ex0 [] []]

theorem eight_in (w : World) : St.SlQ (fun b => w.heap.size ≤ b) (w.alloc (.cells #[.int .i64 8, .int .i64 0, .int .i64 0, .int .i64 0, .slice none 0 0, .int .i64 0, .int .i64 0, .int .i64 0, .slice none 0 0, .int .i64 0, .int .i64 0, .slice none 0 0, .slice none 0 0, .slice none 0 0] 34)) eightT (.slice (some ⟨w.heap.size, 0, none⟩) 1 1) [w.heap.size] := by
  have h4 := heap_alloc_new w (.cells #[.int .i64 8, .int .i64 0, .int .i64 0, .int .i64 0, .slice none 0 0, .int .i64 0, .int .i64 0, .int .i64 0, .slice none 0 0, .int .i64 0, .int .i64 0, .slice none 0 0, .slice none 0 0, .slice none 0 0] 34)
  refine ⟨_, 1, rfl, .inr ⟨by simp [eightT], w.heap.size, [], rfl, ⟨Nat.le_refl _, _, h4⟩, rfl, ?_⟩⟩
  unfold eightT St.RowQ
  refine ⟨[], [], rfl, ⟨fun i => ([.int .i64 8, .int .i64 0, .int .i64 0, .int .i64 0, .slice none 0 0, .int .i64 0, .int .i64 0, .int .i64 0, .slice none 0 0, .int .i64 0, .int .i64 0, .slice none 0 0, .slice none 0 0, .slice none 0 0] : List Value).getD i undef, fun j hj => ?_, ?_⟩, ?_⟩
  · match j, hj with
    | 0, _ | 1, _ | 2, _ | 3, _ | 4, _ | 5, _ | 6, _ | 7, _ | 8, _ | 9, _ | 10, _ | 11, _ | 12, _ | 13, _ => exact blk_cell h4 rfl
  · unfold St.InQ
    exact ⟨_, _, _, _, _, _, _, _, _, _, _, rfl, leaf_in _ _ _ _, leaf_in _ _ _ _, leaf_in _ _ _ _, [], [], rfl, ⟨none, 0, rfl, .inl ⟨rfl, rfl⟩⟩, ⟨none, 0, rfl, .inl ⟨rfl, rfl⟩⟩⟩
  · unfold St.RowQ
    rfl

/-- What Check answers. -/
def checkV (a : List St) : Value := if 200 < St.countAll a then .agg #[.int .i64 2, .int .i64 0] else .agg #[.int .i64 (firstErr (St.flatAll a 0 []) 0).1, .int .i64 (firstErr (St.flatAll a 0 []) 0).2]

theorem checkV_plain : checkV plainT = .agg #[.int .i64 0, .int .i64 0] := by rfl
theorem checkV_eight : checkV eightT = .agg #[.int .i64 6, .int .i64 0] := by rfl
theorem count_plain : St.countAll plainT = 3 := by rfl
theorem bulk_plain : St.bulkAll plainT ≤ 1048576 := by decide
theorem bulk_eight : St.bulkAll eightT ≤ 1048576 := by decide

theorem checkV_two (a : List St) : ∃ x y : Int, checkV a = .agg #[.int .i64 x, .int .i64 y] := by
  unfold checkV
  split
  · exact ⟨_, _, rfl⟩
  · exact ⟨_, _, rfl⟩
end Go.Proofs.YtfffpemgfddehaaDoor
namespace Go.Proofs.YtfffpemgfddehaaDoor
open Go.ChangeShapes Go.WideShapes Go.ChangeAt Go.RowKit

/-- What is asked of a world for Check. -/
def Ready (w : World) : Prop := ShapesIn w ∧ FormsIn w

theorem Ready.below {w w' : World} (h : Ready w) (hb : Below w.heap.size w w') : Ready w' :=
  ⟨h.1.below (World.block_lt_of_cell? _ _ (h.1 1 (by omega) (by omega)).1) hb, h.2.below hb⟩

theorem Check_b (hall : ∀ W, Ready W → ListOk W 1048576) (a : List St) (w : World) (v : Value) (p : Nat → Prop) (bl : List Nat) (hr : Ready w) (hsl : St.SlQ p w a v bl) (hnd : bl.Nodup) (hN : St.bulkAll a ≤ 1048576) :
    Calls Tryd.prog 4 #[v] w fun r w' => r = .returned (checkV a) ∧ Below w.heap.size w w' :=
  Check_of_list a w v p bl hsl hnd hN (hall w hr)

theorem Count_b (a : List St) (w w1 : World) (v : Value) (p : Nat → Prop) (bl : List Nat) (hsl : St.SlQ p w a v bl) (hnd : bl.Nodup) (hN : St.bulkAll a ≤ 1048576) (hb : Below w.heap.size w w1) :
    Calls Tryd.prog 7 #[v] w1 fun r w' => r = .returned (.int .i64 (St.countAll a)) ∧ Below w1.heap.size w1 w' := by
  obtain ⟨ts, hts, hct, hnd'⟩ := hsl.seen hnd
  have := St.countAll_le a
  have h := Count_any ts w1 v (hts.below hb) hnd' (by omega)
  rw [hct] at h
  exact h

theorem CheckBody_b (a : List St) (w : World) (v : Value) (hN : St.bulkAll a ≤ 1048576) (hin : St.Sl w a v) :
    Calls Tryd.prog 10 #[v] w fun r w' => r = .returned (checkV a) ∧ Below w.heap.size w w' := CheckBody_any a w v hN hin

/-- How far the walk is. -/
def Phase (_ : Nat) : Prop := True

/-- The law's own body, hidden. -/
theorem plain_b (w : World) : Calls Tryd.prog 5 #[] w fun r w' => ∃ v T bl, r = .returned v ∧ Hid ((St.SlQ (fun b => w.heap.size ≤ b) w' T v bl ∧ bl.Nodup ∧ St.bulkAll T ≤ 1048576) ∧ (checkV T = .agg #[.int .i64 0, .int .i64 0] ∧ St.countAll T = 3)) ∧ Below w.heap.size w w' := by
  refine (plain_any w).mono ?_
  rintro r w' ⟨v, bl, rfl, h1, h2, h3⟩
  exact ⟨v, plainT, bl, rfl, ⟨⟨h1, h2, bulk_plain⟩, checkV_plain, count_plain⟩, h3⟩

theorem Check_p (hall : ∀ W, Ready W → ListOk W 1048576) (T : List St) (w : World) (v : Value) (p : Nat → Prop) (bl : List Nat) (hr : Ready w) (h : Hid ((St.SlQ p w T v bl ∧ bl.Nodup ∧ St.bulkAll T ≤ 1048576) ∧ (checkV T = .agg #[.int .i64 0, .int .i64 0] ∧ St.countAll T = 3))) :
    Calls Tryd.prog 4 #[v] w fun r w' => r = .returned (.agg #[.int .i64 0, .int .i64 0]) ∧ Below w.heap.size w w' := by
  have := Check_b hall T w v p bl hr h.out.1.1 h.out.1.2.1 h.out.1.2.2
  rw [h.out.2.1] at this
  exact this

theorem Count_p (T : List St) (w : World) (v : Value) (p : Nat → Prop) (bl : List Nat) (h : Hid ((St.SlQ p w T v bl ∧ bl.Nodup ∧ St.bulkAll T ≤ 1048576) ∧ (checkV T = .agg #[.int .i64 0, .int .i64 0] ∧ St.countAll T = 3))) :
    Calls Tryd.prog 7 #[v] w fun r w' => r = .returned (.int .i64 3) ∧ Below w.heap.size w w' := by
  have := Count_b T w w v p bl h.out.1.1 h.out.1.2.1 h.out.1.2.2 (Below.refl _ _)
  rw [h.out.2.2] at this
  exact this

theorem Check_e (hall : ∀ W, Ready W → ListOk W 1048576) (w : World) (hr : Ready w) :
    Calls Tryd.prog 4 #[.slice (some ⟨w.heap.size, 0, none⟩) 1 1] (w.alloc (.cells #[.int .i64 8, .int .i64 0, .int .i64 0, .int .i64 0, .slice none 0 0, .int .i64 0, .int .i64 0, .int .i64 0, .slice none 0 0, .int .i64 0, .int .i64 0, .slice none 0 0, .slice none 0 0, .slice none 0 0] 34)) fun r w' => r = .returned (.agg #[.int .i64 6, .int .i64 0]) ∧ Below w.heap.size w w' := by
  have hb : Below w.heap.size w (w.alloc (.cells #[.int .i64 8, .int .i64 0, .int .i64 0, .int .i64 0, .slice none 0 0, .int .i64 0, .int .i64 0, .int .i64 0, .slice none 0 0, .int .i64 0, .int .i64 0, .slice none 0 0, .slice none 0 0, .slice none 0 0] 34)) := (Below.refl _ _).alloc (Nat.le_refl _) _
  have := Check_b hall eightT _ _ _ _ (hr.below hb) (eight_in w) (by simp) bulk_eight
  rw [checkV_eight] at this
  exact this.mono fun r w' ⟨h1, h2⟩ => ⟨h1, below_seq hb h2⟩

theorem Check_a (hall : ∀ W, Ready W → ListOk W 1048576) (a : List St) (cx cy : Int) (w : World) (v : Value) (p : Nat → Prop) (bl : List Nat) (hr : Ready w) (h : St.SlQ p w a v bl ∧ bl.Nodup ∧ St.bulkAll a ≤ 1048576) (hx : checkV a = .agg #[.int .i64 cx, .int .i64 cy]) :
    Calls Tryd.prog 4 #[v] w fun r w' => r = .returned (.agg #[.int .i64 cx, .int .i64 cy]) ∧ Below w.heap.size w w' := by
  have := Check_b hall a w v p bl hr h.1 h.2.1 h.2.2
  rw [hx] at this
  exact this

theorem CheckBody_a (a : List St) (cx cy : Int) (w : World) (v : Value) (hN : St.bulkAll a ≤ 1048576) (hin : St.Sl w a v) (hx : checkV a = .agg #[.int .i64 cx, .int .i64 cy]) :
    Calls Tryd.prog 10 #[v] w fun r w' => r = .returned (.agg #[.int .i64 cx, .int .i64 cy]) ∧ Below w.heap.size w w' := by
  have := CheckBody_b a w v hN hin
  rw [hx] at this
  exact this

theorem claims_b (a : List St) (w : World) (v : Value) (c : Bool) (hN : St.bulkAll a ≤ 1048576) (hin : St.Sl w a v) (hc : (decide (St.deepAll 0 a ≤ 300) && decide ((St.countAll a : Int) ≤ 2000)) = c) :
    Calls Tryd.prog 8 #[v] w fun r w' => r = .returned (.bool c) ∧ Below w.heap.size w w' := by
  have := claims_any a w v hN hin
  rw [hc] at this
  exact this





set_option maxRecDepth 20000 in
set_option maxHeartbeats 4000000 in
theorem law_walk (hall : ∀ W, Ready W → ListOk W 1048576) (a : List St) (w : World) (v : Value) (hr : Ready w) (hin : St.Sl w a v) (hN : St.bulkAll a ≤ 1048576) :
    Calls Tryd.prog 3 #[v] w fun r w' => r = .returned (.bool true) ∧ Below w.heap.size w w' := by
  have HH : Hid ((∀ W, Ready W → ListOk W 1048576) ∧ Ready w ∧ St.Sl w a v) := ⟨hall, hr, hin⟩
  clear hall hr hin
  obtain ⟨cx, cy, hxy⟩ := checkV_two a
  have HXY : Hid (checkV a = _) := hxy
  clear hxy
  generalize hcl : (decide (St.deepAll 0 a ≤ 300) && decide ((St.countAll a : Int) ≤ 2000)) = c
  have HC : Hid (_ = _) := hcl
  clear hcl
  have hfld : ∀ W, (Instr.field 25 (.agg #[.int .i64 0, .int .i64 0]) 0).run Tryd.prog W = .ok (.int .i64 0) W := fun W => by rfl
  have PH : Phase 0 := trivial
  cases c
  all_goals
    go_enter Tryd.func3, Tryd.ntmps3
    go_wp2_with (first
      | (go_at_call 5; guard_hyp PH : Phase 0; refine (plain_b _).mono ?_; rintro r w1 ⟨v1, T1, bl1, rfl, HP1, hb1⟩; have HB1 : Hid (Below w.heap.size w w1) := hb1; clear hb1; clear PH; have PH : Phase 1 := trivial)
      | (go_at_call 4; guard_hyp PH : Phase 1; refine (Check_p HH.out.1 T1 _ v1 _ bl1 (HH.out.2.1.below HB1.out) HP1).mono ?_; rintro r w2 ⟨rfl, hb2⟩; have HB2 : Hid (Below w.heap.size w w2) := below_seq HB1.out hb2; clear hb2 HP1; clear PH; have PH : Phase 2 := trivial)
      | (go_at_call 4; guard_hyp PH : Phase 2; refine (Check_e HH.out.1 _ (HH.out.2.1.below HB2.out)).mono ?_; rintro r w4 ⟨rfl, hb4⟩; have HB4 : Hid (Below w.heap.size w w4) := below_seq HB2.out hb4; clear hb4; clear PH; have PH : Phase 3 := trivial)
      | (go_at_call 6; guard_hyp PH : Phase 3; refine (F_any 6 0 _).mono ?_; rintro r w5 ⟨rfl, hb5⟩; have HB5 : Hid (Below w.heap.size w w5) := below_seq HB4.out hb5; clear hb5; clear PH; have PH : Phase 4 := trivial)
      | (go_at_call 5; guard_hyp PH : Phase 4; refine (plain_b _).mono ?_; rintro r w3 ⟨v3, T3, bl3, rfl, HP3, hb3⟩; have HB3 : Hid (Below w.heap.size w w3) := below_seq HB5.out hb3; clear hb3; clear PH; have PH : Phase 5 := trivial)
      | (go_at_call 7; guard_hyp PH : Phase 5; refine (Count_p T3 _ v3 _ bl3 HP3).mono ?_; rintro r w7 ⟨rfl, hb7⟩; have HB7 : Hid (Below w.heap.size w w7) := below_seq HB3.out hb7; clear hb7 HP3; clear PH; have PH : Phase 6 := trivial)
      | (go_at_call 8; guard_hyp PH : Phase 6; refine (claims_b a _ v _ hN (HH.out.2.2.below HB7.out) HC.out).mono ?_; rintro r w8 ⟨rfl, hb8⟩; have HB8 : Hid (Below w.heap.size w w8) := below_seq HB7.out hb8; clear hb8; clear PH; have PH : Phase 7 := trivial)
      | (go_at_call 9; guard_hyp PH : Phase 7; refine (Twin_any 1048577 a _ v (by omega) (by omega) (HH.out.2.2.below HB8.out)).mono ?_; rintro r w9 ⟨v9, bl9, rfl, hs9, hn9, hb9⟩; have HP9 : Hid (_ ∧ _ ∧ _) := ⟨hs9, hn9, hN⟩; have HB9 : Hid (Below w.heap.size w w9) := below_seq HB8.out hb9; clear hs9 hn9 hb9; clear PH; have PH : Phase 8 := trivial)
      | (go_at_call 4; guard_hyp PH : Phase 8; refine (Check_a HH.out.1 a cx cy _ v9 _ bl9 (HH.out.2.1.below HB9.out) HP9.out HXY.out).mono ?_; rintro r w10 ⟨rfl, hb10⟩; have HB10 : Hid (Below w9.heap.size w9 w10) := hb10; clear hb10; clear PH; have PH : Phase 9 := trivial)
      | (go_at_call 10; guard_hyp PH : Phase 9; refine (CheckBody_a a cx cy _ v hN (HH.out.2.2.below (below_seq HB9.out HB10.out)) HXY.out).mono ?_; rintro r w11 ⟨rfl, hb11⟩; have HB11 : Hid (Below w9.heap.size w9 w11) := below_seq HB10.out hb11; clear hb11; clear PH; have PH : Phase 10 := trivial)
      | (go_at_call 7; guard_hyp PH : Phase 10; refine (Count_b a _ _ v9 _ bl9 HP9.out.1 HP9.out.2.1 hN HB11.out).mono ?_; rintro r w12 ⟨rfl, hb12⟩; have HB12 : Hid (Below w9.heap.size w9 w12) := below_seq HB11.out hb12; clear hb12; clear PH; have PH : Phase 11 := trivial)
      | (go_at_call 11; guard_hyp PH : Phase 11; refine (Size_any 1048577 a _ v (by omega) (by omega) (HH.out.2.2.below (below_seq HB9.out HB12.out))).mono ?_; rintro r w13 ⟨rfl, hb13⟩; have HB13 : Hid (Below w9.heap.size w9 w13) := below_seq HB12.out hb13; clear hb13; clear PH; have PH : Phase 12 := trivial)
      | (go_at_call 12; guard_hyp PH : Phase 12; refine (Bodies_any 1048577 a _ v9 v (by omega) (by omega) (HP9.out.1.plain.below HB13.out) (HH.out.2.2.below (below_seq HB9.out HB13.out))).mono ?_; rintro r w14 ⟨rfl, hb14⟩; have HB14 : Hid (Below w.heap.size w w14) := below_seq HB9.out (below_seq HB13.out hb14); clear hb14; clear PH; have PH : Phase 13 := trivial))
    go_ret
    first
      | exact ⟨rfl, HB8.out⟩
      | exact ⟨rfl, HB14.out⟩
end Go.Proofs.YtfffpemgfddehaaDoor
