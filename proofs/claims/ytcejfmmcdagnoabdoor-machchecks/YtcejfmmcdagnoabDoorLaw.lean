import Derived.Test.YtcejfmmcdagnoabDoorStill
import Derived.Test.YtcejfmmcdagnoabDoorChkW
import Derived.Test.YtcejfmmcdagnoabDoorRB
namespace Go.Proofs.YtcejfmmcdagnoabDoor
open Go.ChangeShapes Go.WideShapes Go.ChangeAt Go.RowKit

set_option maxRecDepth 20000 in
set_option maxHeartbeats 4000000 in
/-- image: the law's own. -/
theorem image_any (w : World) : Calls Tryd.prog 21 #[] w fun r w' => (∃ ad c, r = .returned (.slice ad imageL.length c) ∧ InSl w' imageL (.slice ad imageL.length c)) ∧ Below w.heap.size w w' := by
  go_enter Tryd.func21, Tryd.ntmps21
  go_wp2_with fail
  go_ret
  refine ⟨⟨_, _, rfl, ?_⟩, below_new _ _⟩
  refine ⟨_, _, rfl, .inr ⟨w.heap.size, 0, rfl, fun j hj => ?_⟩⟩
  have h := (cells_of (l := insVs imageL) (heap_alloc_new w (.cells (insVs imageL).toArray 52))).1
  obtain ⟨a0, a1, a2⟩ := insVs_at imageL j hj
  rw [Nat.zero_add]
  exact ⟨h _ _ a0, h _ _ a1, h _ _ a2⟩

/-- Check, of any image. -/
theorem Check_any (w : World) (l : List In) (iad : Option Addr) (ic : Nat) (hkk : KindsIn w) (h : InSl w l (.slice iad l.length ic)) (c k : Int) (hc : checkI l = (c, k)) : Calls Tryd.prog 20 #[.slice iad l.length ic] w fun r w' => r = .returned (.agg #[.int .i64 c, .int .i64 k]) ∧ Below w.heap.size w w' := by
  by_cases hl : l.length ≤ 2000
  · exact Check_walk w l iad ic hkk h hl c k hc
  · have e : checkI l = (2, 0) := by unfold checkI; rw [if_pos (by omega)]
    rw [e] at hc
    simp only [Prod.mk.injEq] at hc
    obtain ⟨rfl, rfl⟩ := hc
    exact Check_many w l.length iad ic (by omega)

theorem keep5 {X Y : World} {p1 p2 p3 p4 p5 : Addr} {x1 x2 x3 x4 x5 : Value} (hb : Below X.heap.size X Y) (h : X.cell? p1 = some x1 ∧ X.cell? p2 = some x2 ∧ X.cell? p3 = some x3 ∧ X.cell? p4 = some x4 ∧ X.cell? p5 = some x5) : Y.cell? p1 = some x1 ∧ Y.cell? p2 = some x2 ∧ Y.cell? p3 = some x3 ∧ Y.cell? p4 = some x4 ∧ Y.cell? p5 = some x5 :=
  ⟨below_cell hb h.1, below_cell hb h.2.1, below_cell hb h.2.2.1, below_cell hb h.2.2.2.1, below_cell hb h.2.2.2.2⟩

theorem add_sl (w : World) : InSl (w.alloc (.cells #[.int .i64 4, .int .i64 0, .int .i64 0] 52)) [⟨4, 0, 0⟩] (.slice (some ⟨w.heap.size, 0, none⟩) 1 1) := by
  refine ⟨_, _, rfl, .inr ⟨w.heap.size, 0, rfl, fun j hj => ?_⟩⟩
  have h := (cells_of (l := [.int .i64 4, .int .i64 0, .int .i64 0]) (heap_alloc_new w (.cells #[.int .i64 4, .int .i64 0, .int .i64 0] 52))).1
  have hj' : j < 1 := hj
  have : j = 0 := by omega
  subst this
  exact ⟨h 0 _ rfl, h 1 _ rfl, h 2 _ rfl⟩

set_option maxRecDepth 20000 in
set_option maxHeartbeats 4000000 in
/-- MachChecks: the law. -/
theorem law_walk (hread : ∀ (w : World) (l : List In) (iad : Option Addr) (ic : Nat) (_ : InSl w l (.slice iad l.length ic)) (c k : Int) (_ : docI l = (c, k)), Calls Tryd.prog 24 #[.slice iad l.length ic] w fun r w' => (∃ p, r = .returned (.tuple #[p, .agg #[.int .i64 c, .int .i64 k]])) ∧ Below w.heap.size w w') (w : World) (l : List In) (iad : Option Addr) (ic : Nat) (hk : KindsIn w) (h0 : w.cell? ⟨0, 0, none⟩ = some (.int .i64 (-1))) (h1 : w.cell? ⟨0, 1, none⟩ = some (.int .i64 (-2))) (h2 : w.cell? ⟨0, 2, none⟩ = some (.int .i64 (-3))) (h : InSl w l (.slice iad l.length ic)) (hnil : iad = none → l.length = 0 ∧ ic = 0) :
    Calls Tryd.prog 5 #[.slice iad l.length ic] w fun r w' => r = .returned (.bool true) ∧ Below w.heap.size w w' := by
  have HG : Hid (KindsIn w ∧ InSl w l (.slice iad l.length ic)) := ⟨hk, h⟩
  have HT : Hid _ := hread
  have HG0 : Hid (_ ∧ _ ∧ _) := ⟨h0, h1, h2⟩
  have hfd : ∀ W : World, (Instr.field 31 (.agg #[.int .i64 0, .int .i64 0]) 0).run Tryd.prog W = .ok (.int .i64 0) W := fun _ => by kernel_rfl
  clear hk h hread
  by_cases hbig : 3000 < l.length
  · have hb3 : (3000 : Int) < (l.length : Int) := by omega
    go_enter Tryd.func5, Tryd.ntmps5
    go_wp2_with (first
      | (go_at_call 21; refine (image_any _).mono ?_; rintro r w1 ⟨⟨ad1, c1, rfl, hsl1⟩, hb1⟩; have H1 : Hid (Below w.heap.size w w1 ∧ InSl w1 imageL (.slice ad1 imageL.length c1)) := ⟨hb1, hsl1⟩; clear hb1 hsl1)
      | (go_at_call_of 20 ad1; refine (Check_any _ imageL _ _ (HG.out.1.below H1.out.1) H1.out.2 0 0 checkI_image).mono ?_; rintro r w2 ⟨rfl, hb2⟩; have H2 : Hid (Below w.heap.size w w2) := below_seq H1.out.1 hb2; clear hb2)
      | (go_at_call_of 20 w2; refine (Check_any _ [⟨4, 0, 0⟩] _ _ (HG.out.1.below (below_seq H2.out (below_new _ _))) (add_sl w2) 8 0 checkI_add).mono ?_; rintro r w3 ⟨rfl, hb3⟩; have H3 : Hid (Below w.heap.size w w3) := below_seq (below_seq H2.out (below_new _ _)) hb3; clear hb3)
      | (go_at_call 22; refine (F_any 8 0 _).mono ?_; rintro r w4 ⟨rfl, hb4⟩; have H4 : Hid (Below w.heap.size w w4) := below_seq H3.out hb4; clear hb4))
    go_ret
    exact ⟨rfl, H4.out⟩
  · have hb3 : ¬ (3000 : Int) < (l.length : Int) := by omega
    rcases hdc : docI l with ⟨c, k⟩
    have HC : Hid (docI l = (c, k) ∧ checkI l = (c, k)) := ⟨hdc, by rw [← doc_check]; exact hdc⟩
    clear hdc
    go_enter Tryd.func5, Tryd.ntmps5
    go_wp2_with (first
      | (go_at_call 21; refine (image_any _).mono ?_; rintro r w1 ⟨⟨ad1, c1, rfl, hsl1⟩, hb1⟩; have H1 : Hid (Below w.heap.size w w1 ∧ InSl w1 imageL (.slice ad1 imageL.length c1)) := ⟨hb1, hsl1⟩; clear hb1 hsl1)
      | (go_at_call_of 20 ad1; refine (Check_any _ imageL _ _ (HG.out.1.below H1.out.1) H1.out.2 0 0 checkI_image).mono ?_; rintro r w2 ⟨rfl, hb2⟩; have H2 : Hid (Below w.heap.size w w2) := below_seq H1.out.1 hb2; clear hb2)
      | (go_at_call_of 20 w2; refine (Check_any _ [⟨4, 0, 0⟩] _ _ (HG.out.1.below (below_seq H2.out (below_new _ _))) (add_sl w2) 8 0 checkI_add).mono ?_; rintro r w3 ⟨rfl, hb3⟩; have H3 : Hid (Below w.heap.size w w3) := below_seq (below_seq H2.out (below_new _ _)) hb3; clear hb3)
      | (go_at_call 22; refine (F_any 8 0 _).mono ?_; rintro r w4 ⟨rfl, hb4⟩; have H4 : Hid (Below w.heap.size w w4) := below_seq H3.out hb4; have g0 := below_cell H4.out HG0.out.1; have g1 := below_cell H4.out HG0.out.2.1; have g2 := below_cell H4.out HG0.out.2.2; clear hb4)
      | (go_at_call 23; refine (Lend_any _ l ⟨-1, -2, -3⟩ _ _ (by omega) (HG.out.2.below H4.out) hnil).mono ?_; rintro r w6 ⟨u6, rfl, hu6, hb6⟩; have H6 : Hid (Below w.heap.size w w6 ∧ LentI w6 l ⟨-1, -2, -3⟩ u6) := ⟨below_seq H4.out hb6, hu6⟩; obtain ⟨ub, uo, ucap, rfl, -⟩ := hu6; clear hb6)
      | (go_at_call 24; refine (HT.out _ l _ _ (HG.out.2.below H6.out.1) c k HC.out.1).mono ?_; rintro r w7 ⟨⟨p7, rfl⟩, hb7⟩; have H7 : Hid (Below w.heap.size w w7 ∧ LentI w7 l ⟨-1, -2, -3⟩ (.slice (some ⟨ub, uo, none⟩) l.length ucap)) := ⟨below_seq H6.out.1 hb7, H6.out.2.below hb7⟩; clear hb7))
    have hS0 : ((w7.alloc (.cells #[.int .i64 c, .int .i64 k] 31)).drew).cell? ⟨w7.heap.size, 0, none⟩ = some (.int .i64 c) ∧ ((w7.alloc (.cells #[.int .i64 c, .int .i64 k] 31)).drew).cell? ⟨w7.heap.size, 1, none⟩ = some (.int .i64 k) ∧ ((w7.alloc (.cells #[.int .i64 c, .int .i64 k] 31)).drew).cell? ⟨0, 0, none⟩ = some (.int .i64 (-1)) ∧ ((w7.alloc (.cells #[.int .i64 c, .int .i64 k] 31)).drew).cell? ⟨0, 1, none⟩ = some (.int .i64 (-2)) ∧ ((w7.alloc (.cells #[.int .i64 c, .int .i64 k] 31)).drew).cell? ⟨0, 2, none⟩ = some (.int .i64 (-3)) := ⟨by go_simp, by go_simp, below_cell (below_seq H7.out.1 ((below_new _ _).drew)) HG0.out.1, below_cell (below_seq H7.out.1 ((below_new _ _).drew)) HG0.out.2.1, below_cell (below_seq H7.out.1 ((below_new _ _).drew)) HG0.out.2.2⟩
    refine wp_region_noPanic ?_
    refine wp_region_held_drew (S := fun w' => w'.cell? ⟨w7.heap.size, 0, none⟩ = some (.int .i64 c) ∧ w'.cell? ⟨w7.heap.size, 1, none⟩ = some (.int .i64 k) ∧ w'.cell? ⟨0, 0, none⟩ = some (.int .i64 (-1)) ∧ w'.cell? ⟨0, 1, none⟩ = some (.int .i64 (-2)) ∧ w'.cell? ⟨0, 2, none⟩ = some (.int .i64 (-3))) (by kernel_rfl) hS0 (fun hHeld => ?_)
    refine take_at (i := 0) (n := 28) (v := ?_) rfl rfl (by kernel_rfl) (by kernel_rfl) (by kernel_rfl) (fun _ _ _ h => h) (Or.inl ⟨by rfl, ?_⟩) (by assumption) ?_
    rotate_left 1
    · intro wz hSw
      first | (go_simp; done) | (go_simp; with_reducible rfl)
    simp only [List.set_cons_zero, List.set_cons_succ]
    refine take_at (i := 2) (n := 30) (v := ?_) rfl rfl (by kernel_rfl) (by kernel_rfl) (by kernel_rfl) (fun _ _ _ h => h) (Or.inl ⟨by rfl, ?_⟩) (by assumption) ?_
    rotate_left 1
    · intro wz hSw
      first | (go_simp; done) | (go_simp; with_reducible rfl)
    simp only [List.set_cons_zero, List.set_cons_succ]
    refine wpAnyH_ready (rs := [1]) (by kernel_rfl) (by simp) ?_
    refine AllReadyH.cons rfl (fun K hK => ?_) AllReadyH.nil
    go_simp
    go_wp2_with (go_at_call 20; refine (Check_any _ l _ _ (HG.out.1.below (below_seq H7.out.1 ((below_new _ _).drew))) (H7.out.2.plain.below ((below_new _ _).drew)) c k HC.out.2).mono ?_; rintro r w9 ⟨rfl, hb9⟩; have hS9 := keep5 hb9 hHeld; have H9 : Hid (Below w7.heap.size w7 w9) := below_seq ((below_new _ _).drew) hb9; clear hb9)
    refine hK.out _ _ hS9 (fun hHeld => ?_)
    clear hK K hS9
    refine take_at (i := 3) (n := 31) (v := ?_) rfl rfl (by kernel_rfl) (by kernel_rfl) (by kernel_rfl) (fun _ _ _ h => h) (Or.inl ⟨by rfl, ?_⟩) (by assumption) ?_
    rotate_left 1
    · intro wz hSw
      first | (go_simp; done) | (go_simp; with_reducible rfl)
    simp only [List.set_cons_zero, List.set_cons_succ]
    refine take_at (i := 4) (n := 32) (v := ?_) rfl rfl (by kernel_rfl) (by kernel_rfl) (by kernel_rfl) (fun _ _ _ h => h) (Or.inl ⟨by rfl, ?_⟩) (by assumption) ?_
    rotate_left 1
    · intro wz hSw
      first | (go_simp; done) | (go_simp; with_reducible rfl)
    simp only [List.set_cons_zero, List.set_cons_succ]
    refine take_at (i := 5) (n := 33) (v := ?_) rfl rfl (by kernel_rfl) (by kernel_rfl) (by kernel_rfl) (fun _ _ _ h => h) (Or.inl ⟨by rfl, ?_⟩) (by assumption) ?_
    rotate_left 1
    · intro wz hSw
      first | (go_simp; done) | (go_simp; with_reducible rfl)
    simp only [List.set_cons_zero, List.set_cons_succ]
    refine take_at (i := 6) (n := 34) (v := ?_) rfl rfl (by kernel_rfl) (by kernel_rfl) (by kernel_rfl) (fun _ _ _ h => h) (Or.inl ⟨by rfl, ?_⟩) (by assumption) ?_
    rotate_left 1
    · intro wz hSw
      first | (go_simp; done) | (go_simp; with_reducible rfl)
    simp only [List.set_cons_zero, List.set_cons_succ]
    refine take_at (i := 7) (n := 35) (v := ?_) rfl rfl (by kernel_rfl) (by kernel_rfl) (by kernel_rfl) (fun _ _ _ h => h) (Or.inl ⟨by rfl, ?_⟩) (by assumption) ?_
    rotate_left 1
    · intro wz hSw
      first | (go_simp; done) | (go_simp; with_reducible rfl)
    simp only [List.set_cons_zero, List.set_cons_succ]
    refine wpAnyH_ready (rs := [8]) (by kernel_rfl) (by simp) ?_
    refine AllReadyH.cons rfl (fun K hK => ?_) AllReadyH.nil
    go_simp
    go_wp2_with (go_at_call 25; refine (Still_any _ l ⟨-1, -2, -3⟩ _ _ (by omega) (H7.out.2.below H9.out) (HG.out.2.below (below_seq H7.out.1 H9.out))).mono ?_; rintro r w10 ⟨rfl, hb10⟩; have hS10 := keep5 hb10 hHeld; have H10 : Hid (Below w.heap.size w w10) := below_seq (below_seq H7.out.1 H9.out) hb10; clear hb10)
    refine hK.out _ _ hS10 (fun hHeld => ?_)
    clear hK K hS10
    refine take_at (i := 9) (n := 37) (v := ?_) rfl rfl (by kernel_rfl) (by kernel_rfl) (by kernel_rfl) (fun _ _ _ h => h) (Or.inl ⟨by rfl, ?_⟩) (by assumption) ?_
    rotate_left 1
    · intro wz hSw
      first | (go_simp; done) | (go_simp; with_reducible rfl)
    simp only [List.set_cons_zero, List.set_cons_succ]
    refine take_at (i := 10) (n := 2) (v := ?_) rfl rfl (by kernel_rfl) (by kernel_rfl) (by kernel_rfl) (fun _ _ _ h => h) (Or.inl ⟨by rfl, ?_⟩) (by assumption) ?_
    rotate_left 1
    · intro wz hSw
      first | (go_simp; done) | (go_simp; with_reducible rfl)
    simp only [List.set_cons_zero, List.set_cons_succ]
    refine wpAnyH_done (by kernel_rfl) ?_ _
    refine NoPanic.normal ?_
    go_wp2_with fail
    go_ret
    exact ⟨rfl, H10.out⟩
end Go.Proofs.YtcejfmmcdagnoabDoor
