import Derived.Test.YtibcbdihphbfeacDoorGSLb
import Derived.Test.YtibcbdihphbfeacDoorGSLc
import Derived.Test.YtibcbdihphbfeacDoorGSLd
import Derived.Test.YtibcbdihphbfeacDoorGSLe
import Derived.Test.YtibcbdihphbfeacDoorGSLf
import Derived.Test.YtibcbdihphbfeacDoorGSLg
import Derived.Test.YtibcbdihphbfeacDoorGSLh
import Derived.Test.YtibcbdihphbfeacDoorGSSv
import Derived.Test.YtibcbdihphbfeacDoorGSLj4
import Derived.Test.YtibcbdihphbfeacDoorGSLj5
import Derived.Test.YtibcbdihphbfeacDoorGYes
import Derived.Test.YtibcbdihphbfeacDoorGSLj7
import Derived.Test.YtibcbdihphbfeacDoorGSLj8
import Derived.Test.YtibcbdihphbfeacDoorGExec
import Derived.Test.YtibcbdihphbfeacDoorGRes
import Derived.Test.YtibcbdihphbfeacDoorGMNewOk
import Derived.Laws.MakeOwn
import Derived.Deep.CutRange
import Derived.Test.YtibcbdihphbfeacDoorGRIm
namespace Go.Proofs.YtibcbdihphbfeacDoor
open Go.ChangeShapes Go.WideShapes Go.ChangeAt Go.RowKit

/-- What Steps answers. -/
theorem Steps_any (w : World) (l : List In) (M : Int → Option Int) (iad : Option Addr) (ic : Nat) (vad nad : Option Addr) (vc nc : Nat) (vs ins : List Int) (most : Nat) (g : GoodI l M) (h : InSl w l (.slice iad l.length ic)) (hv : vs.length = 8) (hi : ins.length = 4) (hvs : IntSl w vs (.slice vad vs.length vc)) (hins : IntSl w ins (.slice nad ins.length nc)) (hm : most ≤ 20001) : Calls Tryd.prog 41 #[.slice iad l.length ic, .slice vad 8 vc, .slice nad 4 nc, .int .i64 (most : Int)] w (StepsPost w l ins vs most) :=
  StP.2.2.2.2.2.2.2.2.2.2.2.2.2.2.2.2.2.2 ⟨st_op1⟩ ⟨st_op2⟩ ⟨st_op3⟩ ⟨st_op4⟩ ⟨st_op5⟩ ⟨st_op6⟩ ⟨st_op7⟩ ⟨st_op8⟩ ⟨st_op9⟩ ⟨st_op10⟩ ⟨st_op11⟩ ⟨st_op12⟩ ⟨st_op13⟩ ⟨st_op14⟩ ⟨st_op15⟩ ⟨st_op16⟩ ⟨st_op17⟩ ⟨st_op18⟩ w l M iad ic vad nad vc nc vs ins most g h hv hi hvs hins hm
end Go.Proofs.YtibcbdihphbfeacDoor
namespace Go.Proofs.YtibcbdihphbfeacDoor
open Go.ChangeShapes Go.WideShapes Go.ChangeAt Go.RowKit

/-- What is stored into the answers' blocks leaves alone what was left by a run. -/
theorem RB.cells0 {w W : World} (h : RB w W) (a0 a1 a2 : Value) {p : Addr} {v : Value} (hp : W.cell? p = some v) (hne : p.block ≠ w.heap.size) :
    (((((W.setCell ⟨w.heap.size, 0, none⟩ a0).setCell ⟨w.heap.size, 1, none⟩ a1).setCell ⟨w.heap.size, 2, none⟩ a2).setCell ⟨w.heap.size + 1, 0, none⟩ (.int .i64 0)).setCell ⟨w.heap.size + 1, 1, none⟩ (.int .i64 0)).cell? p = some v := by
  obtain ⟨d1, -, -⟩ := cells_of (l := [_, _]) h.r7
  have d10 := d1 0 _ rfl
  have d11 := d1 1 _ rfl
  have far : ∀ (j : Nat) (W' : World) (u : Value) (x : Addr), x.block ≠ w.heap.size → (W'.setCell ⟨w.heap.size, j, none⟩ u).cell? x = W'.cell? x := fun j W' u x hx => World.cell?_setCell_far W' _ x u (Ne.symm hx)
  have n1 : (⟨w.heap.size + 1, 0, none⟩ : Addr).block ≠ w.heap.size := by show w.heap.size + 1 ≠ w.heap.size; omega
  have n2 : (⟨w.heap.size + 1, 1, none⟩ : Addr).block ≠ w.heap.size := by show w.heap.size + 1 ≠ w.heap.size; omega
  have e1 : (((W.setCell ⟨w.heap.size, 0, none⟩ a0).setCell ⟨w.heap.size, 1, none⟩ a1).setCell ⟨w.heap.size, 2, none⟩ a2).cell? ⟨w.heap.size + 1, 0, none⟩ = some (.int .i64 0) := by
    rw [far _ _ _ _ n1, far _ _ _ _ n1, far _ _ _ _ n1]; exact d10
  have e2 : (((W.setCell ⟨w.heap.size, 0, none⟩ a0).setCell ⟨w.heap.size, 1, none⟩ a1).setCell ⟨w.heap.size, 2, none⟩ a2).cell? ⟨w.heap.size + 1, 1, none⟩ = some (.int .i64 0) := by
    rw [far _ _ _ _ n2, far _ _ _ _ n2, far _ _ _ _ n2]; exact d11
  rw [cell_reset (by rw [cell_reset e1]; exact e2), cell_reset e1, far _ _ _ _ hne, far _ _ _ _ hne, far _ _ _ _ hne]
  exact hp

theorem RB.keepI {w W : World} (h : RB w W) (a0 a1 a2 : Value) {vs : List Int} {v : Value} (hl : vs.length = 8) (hv : IntSl W vs v) :
    IntSl (((((W.setCell ⟨w.heap.size, 0, none⟩ a0).setCell ⟨w.heap.size, 1, none⟩ a1).setCell ⟨w.heap.size, 2, none⟩ a2).setCell ⟨w.heap.size + 1, 0, none⟩ (.int .i64 0)).setCell ⟨w.heap.size + 1, 1, none⟩ (.int .i64 0)) vs v := by
  obtain ⟨ad, c, e, h0 | ⟨b, q, rfl, hc⟩⟩ := hv
  · exact ⟨ad, c, e, .inl h0⟩
  · refine ⟨_, c, e, .inr ⟨b, q, rfl, fun j hj => h.cells0 a0 a1 a2 (hc j hj) ?_⟩⟩
    intro hb
    have hb' : b = w.heap.size := hb
    subst hb'
    have h1 := h.cellAt (hc 0 (by omega))
    have h2 := h.cellAt (hc 1 (by omega))
    omega

theorem RB.keepP {w W : World} (h : RB w W) (a0 a1 a2 : Value) {ps : List (Int × Int)} {v : Value} (hv : PutSl W ps v) :
    PutSl (((((W.setCell ⟨w.heap.size, 0, none⟩ a0).setCell ⟨w.heap.size, 1, none⟩ a1).setCell ⟨w.heap.size, 2, none⟩ a2).setCell ⟨w.heap.size + 1, 0, none⟩ (.int .i64 0)).setCell ⟨w.heap.size + 1, 1, none⟩ (.int .i64 0)) ps v := by
  obtain ⟨ad, c, e, h0 | ⟨b, q, rfl, hc⟩⟩ := hv
  · exact ⟨ad, c, e, .inl h0⟩
  · have hne : ∀ j, j < ps.length → b ≠ w.heap.size := fun j hj hb => by
      subst hb
      have h1 := h.cellAt (hc j hj).1
      have h2 := h.cellAt (hc j hj).2
      omega
    exact ⟨_, c, e, .inr ⟨b, q, rfl, fun j hj => ⟨h.cells0 a0 a1 a2 (hc j hj).1 (hne j hj), h.cells0 a0 a1 a2 (hc j hj).2 (hne j hj)⟩⟩⟩

/-- What a run that ends leaves. -/
def FinPost (w : World) (s : MS) (t : Int) (r : Ending) (w' : World) : Prop := Below w.heap.size w w' ∧ ∃ u q, r = .returned (.tuple #[.agg #[u, q, .int .i64 t], .agg #[.int .i64 0, .int .i64 0]]) ∧ IntSl w' s.vs u ∧ PutSl w' s.ps q

set_option maxRecDepth 20000 in
set_option maxHeartbeats 400000 in
theorem Exec_fin' (w : World) (l : List In) (iad : Option Addr) (ic : Nat) (vad nad : Option Addr) (vc nc : Nat) (s : MS) (t : Int) (h : InSl w l (.slice iad l.length ic)) (hc : docI l = (0, 0)) (hvl : s.vs.length = 8)
    (hst : ∀ W, Below w.heap.size w W → Calls Tryd.prog 41 #[.slice iad l.length ic, .slice vad 8 vc, .slice nad 4 nc, .int .i64 20000] W fun r W' => Below W.heap.size W W' ∧ ∃ ua uc qa qc ta tn tc, r = .returned (.tuple #[.agg #[.slice ua s.vs.length uc, .slice qa s.ps.length qc, .int .i64 t], .slice ta tn tc, .bool true]) ∧ IntSl W' s.vs (.slice ua s.vs.length uc) ∧ PutSl W' s.ps (.slice qa s.ps.length qc)) :
    Calls Tryd.prog 9 #[.slice iad l.length ic, .slice vad 8 vc, .slice nad 4 nc] w (FinPost w s t) := by
  have HK : Hid (InSl w l (.slice iad l.length ic) ∧ docI l = (0, 0)) := ⟨h, hc⟩
  have HT : Hid (∀ W, Below w.heap.size w W → Calls Tryd.prog 41 #[.slice iad l.length ic, .slice vad 8 vc, .slice nad 4 nc, .int .i64 20000] W fun r W' => Below W.heap.size W W' ∧ ∃ ua uc qa qc ta tn tc, r = .returned (.tuple #[.agg #[.slice ua s.vs.length uc, .slice qa s.ps.length qc, .int .i64 t], .slice ta tn tc, .bool true]) ∧ IntSl W' s.vs (.slice ua s.vs.length uc) ∧ PutSl W' s.ps (.slice qa s.ps.length qc)) := hst
  have HV : Hid (s.vs.length = 8) := hvl
  clear h hc hst hvl
  go_enter Tryd.func9, Tryd.ntmps9
  go_wp2_with (first | (go_at_call 23; refine (ReadImage_any _ l _ _ (HK.out.1.below (RB.start w).bel) 0 0 HK.out.2).mono ?_; rintro r w9 ⟨⟨p, rfl⟩, hb9⟩; have H9 : Hid (RB w (w9.alloc (.cells #[.int .i64 0, .int .i64 0] 30))) := ((RB.start w).grow hb9).grow (below_new _ _); clear hb9) | (go_at_call 41; refine (HT.out _ H9.out.bel).mono ?_; rintro r w10 ⟨hb10, ua, uc, qa, qc, ta, tn, tc, rfl, h1, h2⟩; have H10 : Hid (RB w (w10.alloc (.cells #[.slice ua s.vs.length uc, .slice qa s.ps.length qc, .int .i64 t] 27)) ∧ IntSl (w10.alloc (.cells #[.slice ua s.vs.length uc, .slice qa s.ps.length qc, .int .i64 t] 27)) s.vs (.slice ua s.vs.length uc) ∧ PutSl (w10.alloc (.cells #[.slice ua s.vs.length uc, .slice qa s.ps.length qc, .int .i64 t] 27)) s.ps (.slice qa s.ps.length qc) ∧ (w10.alloc (.cells #[.slice ua s.vs.length uc, .slice qa s.ps.length qc, .int .i64 t] 27)).heap[w10.heap.size]? = some (.cells #[.slice ua s.vs.length uc, .slice qa s.ps.length qc, .int .i64 t] 27 (0, 0))) := ⟨(H9.out.grow hb10).grow (below_new _ _), h1.below (below_new _ _), h2.below (below_new _ _), heap_alloc_new _ _⟩; clear hb10 h1 h2 H9 HT; have PH : Phase 7 := trivial) | (show wpList _ _ _ (⟨some 62, _, _, _, _, _⟩ :: _) _ _; guard_hyp PH : Phase 7; clear PH; generalize (w10.alloc (.cells #[.slice ua s.vs.length uc, .slice qa s.ps.length qc, .int .i64 t] 27)) = w11 at *; obtain ⟨rs9, rf9, rl9⟩ := cells_of (l := [_, _]) H10.out.1.r7; obtain ⟨rt9, rg9, rm9⟩ := cells_of (l := [_, _, _]) H10.out.1.r6; obtain ⟨ru9, -, rn9⟩ := cells_of (l := [_, _, _]) H10.out.2.2.2; have r90 := rs9 0 _ rfl; have r91 := rs9 1 _ rfl; have r60 := rt9 0 _ rfl; have r61 := rt9 1 _ rfl; have r62 := rt9 2 _ rfl; have r50 := ru9 0 _ rfl; have r51 := ru9 1 _ rfl; have r52 := ru9 2 _ rfl; clear rs9 rt9 ru9))
  obtain ⟨t1, t2, t3⟩ := H10.out.1.tell (.slice ua s.vs.length uc) (.slice qa s.ps.length qc) (.int .i64 t) (.int .i64 0) (.int .i64 0)
  refine bodyPost_ret (v := .tuple #[.agg #[.slice ua s.vs.length uc, .slice qa s.ps.length qc, .int .i64 t], .agg #[.int .i64 0, .int .i64 0]]) (Exec_ends t1 t2 rfl rfl) rfl ⟨t3, _, _, rfl, ?_, ?_⟩
  · exact H10.out.1.keepI _ _ _ HV.out H10.out.2.1
  · exact H10.out.1.keepP _ _ _ H10.out.2.2.1

theorem Exec_fin (w : World) (l : List In) (M : Int → Option Int) (iad : Option Addr) (ic : Nat) (vad nad : Option Addr) (vc nc : Nat) (vs ins : List Int) (g : GoodI l M) (h : InSl w l (.slice iad l.length ic)) (hc : docI l = (0, 0)) (hv : vs.length = 8) (hi : ins.length = 4) (hvs : IntSl w vs (.slice vad vs.length vc)) (hins : IntSl w ins (.slice nad ins.length nc)) (hfin : (lastF l ins 20000 (ms0 vs) 0).1.pc = l.length) :
    Calls Tryd.prog 9 #[.slice iad l.length ic, .slice vad 8 vc, .slice nad 4 nc] w (ExecIs w l vs ins) := by
  have hrun : runF l ins 20000 (ms0 vs) 0 = .inr (lastF l ins 20000 (ms0 vs) 0) := by rw [run_last]; exact if_pos hfin
  have hd : decide ((lastF l ins 20000 (ms0 vs) 0).1.pc = l.length) = true := by simpa using hfin
  rcases hs : lastF l ins 20000 (ms0 vs) 0 with ⟨s, t⟩
  rw [hs] at hrun
  have er : resF l vs ins = ((0, 0), s.vs, s.ps, t) := by rw [res_run hc hv hi, hrun]
  have hvl : s.vs.length = 8 := (run_len l ins _ _ _ hrun).1.trans hv
  refine (Exec_fin' w l iad ic vad nad vc nc s t h hc hvl fun W hb => ?_).mono fun r w' hr => ?_
  · refine (Steps_any W l M iad ic vad nad vc nc vs ins 20000 g (h.below hb) hv hi (hvs.below hb) (hins.below hb) (by omega)).mono fun r W' hr => ?_
    obtain ⟨hb', u, q, tv, e, h1, h2, h3⟩ := hr
    rw [hd] at e
    rw [hs] at h1 h2 e
    obtain ⟨ua, uc, rfl, -⟩ := id h1
    obtain ⟨qa, qc, rfl, -⟩ := id h2
    obtain ⟨ta, tc, rfl, -⟩ := h3
    exact ⟨hb', ua, uc, qa, qc, ta, _, tc, e, h1, h2⟩
  · obtain ⟨h0, u, q, e, h1, h2⟩ := hr
    refine ⟨h0, u, q, ?_, ?_, ?_⟩
    · rw [er]; exact e
    · rw [er]; exact h1
    · rw [er]; exact h2
end Go.Proofs.YtibcbdihphbfeacDoor
namespace Go.Proofs.YtibcbdihphbfeacDoor
open Go.ChangeShapes Go.WideShapes Go.ChangeAt Go.RowKit

theorem StepSl.at {w : World} {tr : List (Nat × Int)} {v : Value} (h : StepSl w tr v) (hl : tr.length = 20001) : ∃ b o c, v = .slice (some ⟨b, o, none⟩) 20001 c ∧ w.cell? ⟨b, o + 40000, none⟩ = some (.int .i64 ((tr.getD 20000 (0, 0)).1 : Int)) := by
  obtain ⟨ad, c, e, h0 | ⟨b, o, rfl, hc⟩⟩ := h
  · rw [h0] at hl; simp at hl
  · exact ⟨b, o, c, by rw [e, hl], (hc 20000 (by omega)).1⟩

set_option maxRecDepth 20000 in
set_option maxHeartbeats 4000000 in
theorem Exec_long (w : World) (l : List In) (M : Int → Option Int) (iad : Option Addr) (ic : Nat) (vad nad : Option Addr) (vc nc : Nat) (vs ins : List Int) (g : GoodI l M) (h : InSl w l (.slice iad l.length ic)) (hc : docI l = (0, 0)) (hv : vs.length = 8) (hi : ins.length = 4) (hvs : IntSl w vs (.slice vad vs.length vc)) (hins : IntSl w ins (.slice nad ins.length nc)) (hfin : (lastF l ins 20000 (ms0 vs) 0).1.pc ≠ l.length) :
    Calls Tryd.prog 9 #[.slice iad l.length ic, .slice vad 8 vc, .slice nad 4 nc] w fun r w' => r = .returned (failV 11 ((lastF l ins 20000 (ms0 vs) 0).1.pc : Int)) ∧ Below w.heap.size w w' := by
  have hd : decide ((lastF l ins 20000 (ms0 vs) 0).1.pc = l.length) = false := by simpa using hfin
  have hrun : runF l ins 20000 (ms0 vs) 0 = .inl (lastF l ins 20000 (ms0 vs) 0).1.pc := by rw [run_last]; exact if_neg hfin
  obtain ⟨hl1, hl2, hat⟩ := run_inl l ins 20000 (ms0 vs) 0 hrun
  generalize hp : (lastF l ins 20000 (ms0 vs) 0).1.pc = p at *
  generalize htr : traceF l ins (20000 + 1) (ms0 vs) = tr2 at *
  have htr' : traceF l ins 20001 (ms0 vs) = tr2 := htr
  have HK : Hid (InSl w l (.slice iad l.length ic) ∧ docI l = (0, 0) ∧ GoodI l M ∧ IntSl w vs (.slice vad vs.length vc) ∧ IntSl w ins (.slice nad ins.length nc) ∧ (traceF l ins 20000 (ms0 vs)).length = 20000 ∧ tr2.length = 20001 ∧ (tr2.getD 20000 (0, 0)).1 = p ∧ (lastF l ins 20000 (ms0 vs) 0).1.pc = p ∧ traceF l ins 20001 (ms0 vs) = tr2) := ⟨h, hc, g, hvs, hins, hl1, hl2, hat, hp, htr'⟩
  clear h hc g hvs hins hrun hfin hl1 hl2 hat hp htr htr'
  go_enter Tryd.func9, Tryd.ntmps9
  have PH : Phase 1 := trivial
  go_wp2_with (first | (go_at_call 23; refine (ReadImage_any _ l _ _ (HK.out.1.below (RB.start w).bel) 0 0 HK.out.2.1).mono ?_; rintro r w9 ⟨⟨p9, rfl⟩, hb9⟩; have H9 : Hid (RB w (w9.alloc (.cells #[.int .i64 0, .int .i64 0] 30))) := ((RB.start w).grow hb9).grow (below_new _ _); clear hb9) | (go_at_call 41; guard_hyp PH : Phase 1; clear PH; refine (Steps_any _ l M _ _ vad nad vc nc vs ins 20000 HK.out.2.2.1 (HK.out.1.below H9.out.bel) hv hi (HK.out.2.2.2.1.below H9.out.bel) (HK.out.2.2.2.2.1.below H9.out.bel) (by omega)).mono ?_; rintro r w10 ⟨hb10, u, q, tv, rfl, h1, h2, h3⟩; rw [HK.out.2.2.2.2.2.2.2.2.1, hd]; obtain ⟨ua, uc, rfl, -⟩ := h1; obtain ⟨qa, qc, rfl, -⟩ := h2; obtain ⟨ta, tc, rfl, -⟩ := h3; rw [HK.out.2.2.2.2.2.1]; have H10 : Hid (RB w w10) := H9.out.grow hb10; clear hb10; generalize (lastF l ins 20000 (ms0 vs) 0).1.vs.length = la at *; generalize (lastF l ins 20000 (ms0 vs) 0).1.ps.length = lb at *; generalize (lastF l ins 20000 (ms0 vs) 0).2 = lt at *; have H11 : Hid (RB w (w10.alloc (.cells #[.slice ua la uc, .slice qa lb qc, .int .i64 lt] 27))) := H10.out.grow (below_new _ _); have PH : Phase 2 := trivial) | (go_at_call 41; guard_hyp PH : Phase 2; clear PH; refine (Steps_any _ l M _ _ vad nad vc nc vs ins 20001 HK.out.2.2.1 (HK.out.1.below H11.out.bel) hv hi (HK.out.2.2.2.1.below H11.out.bel) (HK.out.2.2.2.2.1.below H11.out.bel) (by omega)).mono ?_; rintro r w12 ⟨hb12, u, q, tv, rfl, h1, h2, h3⟩; rw [HK.out.2.2.2.2.2.2.2.2.2] at h3; obtain ⟨ua2, uc2, rfl, -⟩ := h1; obtain ⟨qa2, qc2, rfl, -⟩ := h2; obtain ⟨tb, tof, tc2, rfl, hcell⟩ := h3.at HK.out.2.2.2.2.2.2.1; rw [HK.out.2.2.2.2.2.2.2.1] at hcell; have hbl := World.block_lt_of_cell? _ _ hcell; have H12 : Hid (RB w w12) := H11.out.grow hb12; clear hb12; generalize (lastF l ins 20001 (ms0 vs) 0).1.vs.length = la2 at *; generalize (lastF l ins 20001 (ms0 vs) 0).1.ps.length = lb2 at *; generalize (lastF l ins 20001 (ms0 vs) 0).2 = lt2 at *; generalize decide ((lastF l ins 20001 (ms0 vs) 0).1.pc = l.length) = so at *; have H13 : Hid (RB w (w12.alloc (.cells #[.slice ua2 la2 uc2, .slice qa2 lb2 qc2, .int .i64 lt2] 27))) := H12.out.grow (below_new _ _)) | (go_at_call 24; refine (F_any 11 (p : Int) _).mono ?_; rintro r w14 ⟨rfl, hb14⟩; have H14 : Hid (RB w w14) := H13.out.grow hb14; obtain ⟨rs9, rf9, rl9⟩ := cells_of (l := [_, _]) H14.out.r7; obtain ⟨rt9, rg9, rm9⟩ := cells_of (l := [_, _, _]) H14.out.r6; have r90 := rs9 0 _ rfl; have r91 := rs9 1 _ rfl; have r60 := rt9 0 _ rfl; have r61 := rt9 1 _ rfl; have r62 := rt9 2 _ rfl; clear hb14 rs9 rt9))
  obtain ⟨t1, t2, t3⟩ := H14.out.tell (.slice none 0 0) (.slice none 0 0) (.int .i64 0) (.int .i64 11) (.int .i64 (p : Int))
  exact bodyPost_ret (v := failV 11 (p : Int)) (Exec_ends t1 t2 rfl rfl) rfl ⟨rfl, t3⟩
end Go.Proofs.YtibcbdihphbfeacDoor
namespace Go.Proofs.YtibcbdihphbfeacDoor
open Go.ChangeShapes Go.WideShapes Go.ChangeAt Go.RowKit

/-- What the document's Execute answers. -/
theorem Exec_is (w : World) (l : List In) (iad : Option Addr) (ic : Nat) (vad nad : Option Addr) (vc nc : Nat) (vs ins : List Int) (h : InSl w l (.slice iad l.length ic)) (hvs : IntSl w vs (.slice vad vs.length vc)) (hins : IntSl w ins (.slice nad ins.length nc)) :
    Calls Tryd.prog 9 #[.slice iad l.length ic, .slice vad vs.length vc, .slice nad ins.length nc] w (ExecIs w l vs ins) := by
  obtain ⟨c, k, hc⟩ : ∃ c k, docI l = (c, k) := ⟨_, _, rfl⟩
  by_cases h0 : c = 0
  · subst h0
    have := docI_zero hc
    subst this
    by_cases hnm : vs.length ≠ 8 ∨ ins.length ≠ 4
    · exact (Exec_range w l iad ic vad nad _ _ vc nc h hc hnm).mono fun r w' hr => ExecIs.fail (res_range hc hnm) hr
    · have hv : vs.length = 8 := by omega
      have hi : ins.length = 4 := by omega
      obtain ⟨M, g⟩ := good_of hc
      by_cases hfin : (lastF l ins 20000 (ms0 vs) 0).1.pc = l.length
      · have := Exec_fin w l M iad ic vad nad vc nc vs ins g h hc hv hi hvs hins hfin
        rw [hv, hi]
        exact this
      · have := Exec_long w l M iad ic vad nad vc nc vs ins g h hc hv hi hvs hins hfin
        rw [hv, hi]
        refine this.mono fun r w' hr => ExecIs.fail ?_ hr
        rw [res_run hc hv hi, run_last, if_neg hfin]
  · exact (Exec_bad w l iad ic _ _ h c k hc h0).mono fun r w' hr => ExecIs.fail (res_bad hc h0) hr
end Go.Proofs.YtibcbdihphbfeacDoor
namespace Go.Proofs.YtibcbdihphbfeacDoor
open Go.ChangeShapes Go.WideShapes Go.ChangeAt Go.RowKit

theorem ready_false {md : Region.Mode} {ops : Array Oper} {l : Array Bool} {i : Nat} (h : i ∈ Region.ready md ops l) : ∃ hi : i < l.size, l[i] = false := by
  unfold Region.ready at h
  rw [List.mem_filter] at h
  have h2 := h.2
  simp only [Bool.and_eq_true, Bool.not_eq_true'] at h2
  have h3 := h2.1
  unfold Array.getD at h3
  split at h3
  · rename_i hi; exact ⟨hi, h3⟩
  · cases h3

/-- A region that draws its order: what holds whatever was done so far, and at the end. -/
theorem wpAny_inv {P : Program} {md : Region.Mode} {ops : Array Oper} {Q : Exit → Act → World → Prop} (Inv : Array Bool → Act → World → Prop)
    (hd : ∀ l a w, Inv l a w → Region.ready md ops l = [] → Q .normal a w)
    (hs : ∀ l a w i, Inv l a w → i ∈ Region.ready md ops l → wpOp P ops Q i (Inv (l.setIfInBounds i true)) a w) :
    ∀ (fuel : Nat) (l : Array Bool) (a : Act) (w : World), Inv l a w → l.toList.count false ≤ fuel → wpAny P md ops Q fuel l a w
  | 0, l, a, w, h, hc => by
    have hr : Region.ready md ops l = [] := by
      cases hr : Region.ready md ops l with
      | nil => rfl
      | cons i r =>
        obtain ⟨hi, he⟩ := ready_false (md := md) (ops := ops) (l := l) (i := i) (by rw [hr]; simp)
        have : false ∈ l.toList := by rw [← he]; simp
        have := List.count_pos_iff.2 this
        omega
    exact ⟨hr, hd l a w h hr⟩
  | fuel + 1, l, a, w, h, hc => by
    refine ⟨fun hr => hd l a w h hr, fun i hi => wpOp_mono (fun a w h' => ?_) (hs l a w i h hi)⟩
    refine wpAny_inv Inv hd hs fuel _ a w h' ?_
    obtain ⟨hl, he⟩ := ready_false hi
    have hl' : i < l.toList.length := by simpa using hl
    rw [Array.toList_setIfInBounds, List.count_set hl']
    have e1 : l.toList[i] = false := by simpa using he
    have hpos : 0 < l.toList.count false := List.count_pos_iff.2 (by rw [← e1]; exact List.getElem_mem _)
    rw [e1, if_pos (by decide), if_neg (by decide)]
    omega
end Go.Proofs.YtibcbdihphbfeacDoor
namespace Go.Proofs.YtibcbdihphbfeacDoor
open Go.ChangeShapes Go.WideShapes Go.ChangeAt Go.RowKit

/-- The eight variables at first, and the four inputs. -/
def zeros8 : List Int := [0, 0, 0, 0, 0, 0, 0, 0]
def fives4 : List Int := [5, 0, 0, 0]
def doneV : List Int := [15, 0, 0, 0, 0, 0, 0, 0]
def doneP : List (Int × Int) := [(1, 30)]

/-- The law's own image, in a world. -/
def BodyAt (w : World) (v : Value) : Prop := ∃ ad c, v = .slice ad imageL.length c ∧ InSl w imageL v ∧ (ad = none → imageL.length = 0 ∧ c = 0)

theorem BodyAt.below {w w' : World} {v : Value} (h : BodyAt w v) (hb : Below w.heap.size w w') : BodyAt w' v := by
  obtain ⟨ad, c, h1, h2, h3⟩ := h
  exact ⟨ad, c, h1, h2.below hb, h3⟩

theorem res_image : resF imageL zeros8 fives4 = ((0, 0), doneV, doneP, 28) := by
  rw [res_run ((doc_check imageL).trans checkI_image) rfl rfl]
  have e : runF imageL fives4 20000 (ms0 zeros8) 0 = _ := run_image
  rw [e]
  rfl

def endV (vb vc : Nat) (pad : Option Addr) (pcap : Nat) : Value := .agg #[.slice (some ⟨vb, 0, none⟩) 8 vc, .slice pad 1 pcap, .int .i64 28]
def okV : Value := .agg #[.int .i64 0, .int .i64 0]

/-- What Run has left. -/
def RanAt (w : World) (vb vc : Nat) (pad : Option Addr) (pcap : Nat) : Prop := VB w vb vc doneV ∧ ∃ B, w.ownsRow B 43 2 (.slice pad 1 pcap) 1 (putVs doneP)

theorem RanAt.move {w w' : World} {vb vc pcap : Nat} {pad : Option Addr} (h : RanAt w vb vc pad pcap) (hb : ∀ (k : Nat) (cs : Array Value) (t : TypeId), (t = 3 ∨ t = 43) → w.heap[k]? = some (Obj.cells cs t (0, 0)) → w'.heap[k]? = some (Obj.cells cs t (0, 0))) : RanAt w' vb vc pad pcap := by
  obtain ⟨⟨l8, cs, h1, h2, h3⟩, B, hl, h4⟩ := h
  refine ⟨⟨l8, cs, hb _ _ _ (.inl rfl) h1, h2, h3⟩, B, hl, ?_⟩
  rcases h4 with h4 | ⟨g, cap, cur, e, hB, hg, hr⟩
  · exact .inl h4
  · exact .inr ⟨g, cap, cur, e, hB, hb _ _ _ (.inr rfl) hg, hr⟩

theorem RanAt.below {w w' : World} {vb vc pcap : Nat} {pad : Option Addr} (h : RanAt w vb vc pad pcap) (hb : Below w.heap.size w w') : RanAt w' vb vc pad pcap :=
  h.move fun k _ _ _ hk => (hb.block k (Array.getElem?_eq_some_iff.1 hk).1).trans hk

/-- A block of three cells, and one of two. -/
def Blk3 (w w' : World) (x : Value) (c0 c1 c2 : Value) : Prop := ∃ g, x = .pointer (some ⟨g, 0, none⟩) ∧ w.heap.size ≤ g ∧ w'.heap[g]? = some (.cells #[c0, c1, c2] 27 (0, 0))
def Blk2 (w w' : World) (x : Value) (c0 c1 : Value) : Prop := ∃ g, x = .pointer (some ⟨g, 0, none⟩) ∧ w.heap.size ≤ g ∧ w'.heap[g]? = some (.cells #[c0, c1] 30 (0, 0))

theorem Blk3.below {w0 w w' : World} {x c0 c1 c2 : Value} (h : Blk3 w0 w x c0 c1 c2) (hb : Below w.heap.size w w') : Blk3 w0 w' x c0 c1 c2 := by
  obtain ⟨g, h1, h2, h3⟩ := h
  exact ⟨g, h1, h2, (hb.block g (Array.getElem?_eq_some_iff.1 h3).1).trans h3⟩
theorem Blk2.below {w0 w w' : World} {x c0 c1 : Value} (h : Blk2 w0 w x c0 c1) (hb : Below w.heap.size w w') : Blk2 w0 w' x c0 c1 := by
  obtain ⟨g, h1, h2, h3⟩ := h
  exact ⟨g, h1, h2, (hb.block g (Array.getElem?_eq_some_iff.1 h3).1).trans h3⟩

/-- What is known, whatever was done so far. -/
structure DF (w : World) (l0 l1 l2 l3 l4 l5 l6 l7 l8 l9 l10 : Bool) (x1 x2 x3 x4 x5 x6 x7 x8 x9 : Value) (w' : World) : Prop where
  bel : Below w.heap.size w w'
  mid : (l3 = false ∧ l4 = false ∧ l5 = false ∧ l6 = false ∧ l9 = false ∧ l10 = false ∧ (l0 = true → BodyAt w' x4) ∧ (l1 = true → ∃ k, x5 = .slice (some ⟨k, 0, none⟩) 8 8 ∧ IntSl w' zeros8 x5) ∧ (l2 = true → ∃ k, x6 = .slice (some ⟨k, 0, none⟩) 4 4 ∧ IntSl w' fives4 x6)) ∨
    (l3 = true ∧ l0 = true ∧ l1 = true ∧ l2 = true ∧ ∃ vb vc pad pcap, RanAt w' vb vc pad pcap ∧ x7 = .tuple #[endV vb vc pad pcap, okV] ∧ (l4 = true → x3 = .tuple #[endV vb vc pad pcap, okV]) ∧ (l4 = false → l5 = false ∧ l6 = false) ∧ (l5 = true → x8 = endV vb vc pad pcap) ∧ (l5 = false → l9 = false) ∧ (l6 = true → x9 = okV) ∧ (l6 = false → l10 = false))
  b3 : (l7 = false ∧ l9 = false) ∨ (l7 = true ∧ ∃ c0 c1 c2, Blk3 w w' x1 c0 c1 c2 ∧ (l9 = true → x8 = .agg #[c0, c1, c2]))
  b2 : (l8 = false ∧ l10 = false) ∨ (l8 = true ∧ ∃ c0 c1, Blk2 w w' x2 c0 c1 ∧ (l10 = true → x9 = .agg #[c0, c1]))

theorem DF.grow {w : World} {l0 l1 l2 l3 l4 l5 l6 l7 l8 l9 l10 : Bool} {x1 x2 x3 x4 x5 x6 x7 x8 x9 : Value} {w' w'' : World} (h : DF w l0 l1 l2 l3 l4 l5 l6 l7 l8 l9 l10 x1 x2 x3 x4 x5 x6 x7 x8 x9 w') (hb : Below w'.heap.size w' w'') : DF w l0 l1 l2 l3 l4 l5 l6 l7 l8 l9 l10 x1 x2 x3 x4 x5 x6 x7 x8 x9 w'' := by
  obtain ⟨h1, h2, h3, h4⟩ := h
  refine ⟨below_seq h1 hb, ?_, ?_, ?_⟩
  · rcases h2 with ⟨a, b, c, d, e, f, g, i, j⟩ | ⟨a, b, c, d, vb, vc, pad, pcap, h, r⟩
    · refine .inl ⟨a, b, c, d, e, f, fun q => (g q).below hb, fun q => ?_, fun q => ?_⟩
      · obtain ⟨k, e, hk⟩ := i q; exact ⟨k, e, hk.below hb⟩
      · obtain ⟨k, e, hk⟩ := j q; exact ⟨k, e, hk.below hb⟩
    · exact .inr ⟨a, b, c, d, vb, vc, pad, pcap, h.below hb, r⟩
  · rcases h3 with h3 | ⟨a, c0, c1, c2, h, r⟩
    · exact .inl h3
    · exact .inr ⟨a, c0, c1, c2, h.below hb, r⟩
  · rcases h4 with h4 | ⟨a, c0, c1, h, r⟩
    · exact .inl h4
    · exact .inr ⟨a, c0, c1, h.below hb, r⟩

/-- At the end. -/
theorem DF.last {w : World} {x1 x2 x3 x4 x5 x6 x7 x8 x9 : Value} {w' : World} (h : DF w true true true true true true true true true true true x1 x2 x3 x4 x5 x6 x7 x8 x9 w') :
    ∃ g g' vb vc pad pcap, x1 = .pointer (some ⟨g, 0, none⟩) ∧ x2 = .pointer (some ⟨g', 0, none⟩) ∧ Hid (RanAt w' vb vc pad pcap ∧ Below w.heap.size w w') ∧ w'.heap[g]? = some (.cells #[.slice (some ⟨vb, 0, none⟩) 8 vc, .slice pad 1 pcap, .int .i64 28] 27 (0, 0)) ∧ w'.heap[g']? = some (.cells #[.int .i64 0, .int .i64 0] 30 (0, 0)) := by
  obtain ⟨h1, h2, h3, h4⟩ := h
  rcases h2 with ⟨a, -⟩ | ⟨-, -, -, -, vb, vc, pad, pcap, h, -, -, -, r5, -, r6, -⟩
  · cases a
  rcases h3 with ⟨a, -⟩ | ⟨-, c0, c1, c2, ⟨g, e, -, hg⟩, r⟩
  · cases a
  rcases h4 with ⟨a, -⟩ | ⟨-, d0, d1, ⟨g', e', -, hg'⟩, r'⟩
  · cases a
  have e8 := (r rfl).symm.trans (r5 rfl)
  have e9 := (r' rfl).symm.trans (r6 rfl)
  unfold endV at e8
  unfold okV at e9
  simp at e8 e9
  obtain ⟨rfl, rfl, rfl⟩ := e8
  obtain ⟨rfl, rfl⟩ := e9
  exact ⟨g, g', vb, vc, pad, pcap, e, e', ⟨h, h1⟩, hg, hg'⟩

theorem DF.s0 {w : World} {l1 l2 l3 l4 l5 l6 l7 l8 l9 l10 : Bool} {x1 x2 x3 x4 x5 x6 x7 x8 x9 : Value} {w' : World} (h : DF w false l1 l2 l3 l4 l5 l6 l7 l8 l9 l10 x1 x2 x3 x4 x5 x6 x7 x8 x9 w') {v : Value} (hv : BodyAt w' v) :
    DF w true l1 l2 l3 l4 l5 l6 l7 l8 l9 l10 x1 x2 x3 v x5 x6 x7 x8 x9 w' := by
  obtain ⟨h1, h2, h3, h4⟩ := h
  refine ⟨h1, ?_, h3, h4⟩
  rcases h2 with ⟨a, b, c, d, e, f, -, i, j⟩ | ⟨-, b, -⟩
  · exact .inl ⟨a, b, c, d, e, f, fun _ => hv, i, j⟩
  · cases b
theorem DF.s1 {w : World} {l0 l2 l3 l4 l5 l6 l7 l8 l9 l10 : Bool} {x1 x2 x3 x4 x5 x6 x7 x8 x9 : Value} {w' : World} (h : DF w l0 false l2 l3 l4 l5 l6 l7 l8 l9 l10 x1 x2 x3 x4 x5 x6 x7 x8 x9 w') {v : Value} (hv : ∃ k, v = .slice (some ⟨k, 0, none⟩) 8 8 ∧ IntSl w' zeros8 v) :
    DF w l0 true l2 l3 l4 l5 l6 l7 l8 l9 l10 x1 x2 x3 x4 v x6 x7 x8 x9 w' := by
  obtain ⟨h1, h2, h3, h4⟩ := h
  refine ⟨h1, ?_, h3, h4⟩
  rcases h2 with ⟨a, b, c, d, e, f, g, -, j⟩ | ⟨-, -, b, -⟩
  · exact .inl ⟨a, b, c, d, e, f, g, fun _ => hv, j⟩
  · cases b
theorem DF.s2 {w : World} {l0 l1 l3 l4 l5 l6 l7 l8 l9 l10 : Bool} {x1 x2 x3 x4 x5 x6 x7 x8 x9 : Value} {w' : World} (h : DF w l0 l1 false l3 l4 l5 l6 l7 l8 l9 l10 x1 x2 x3 x4 x5 x6 x7 x8 x9 w') {v : Value} (hv : ∃ k, v = .slice (some ⟨k, 0, none⟩) 4 4 ∧ IntSl w' fives4 v) :
    DF w l0 l1 true l3 l4 l5 l6 l7 l8 l9 l10 x1 x2 x3 x4 x5 v x7 x8 x9 w' := by
  obtain ⟨h1, h2, h3, h4⟩ := h
  refine ⟨h1, ?_, h3, h4⟩
  rcases h2 with ⟨a, b, c, d, e, f, g, i, -⟩ | ⟨-, -, -, b, -⟩
  · exact .inl ⟨a, b, c, d, e, f, g, i, fun _ => hv⟩
  · cases b
theorem DF.s3 {w : World} {l4 l5 l6 l7 l8 l9 l10 : Bool} {x1 x2 x3 x4 x5 x6 x7 x8 x9 : Value} {w' : World} (h : DF w true true true false l4 l5 l6 l7 l8 l9 l10 x1 x2 x3 x4 x5 x6 x7 x8 x9 w') {vb vc pcap : Nat} {pad : Option Addr} (hv : RanAt w' vb vc pad pcap) :
    DF w true true true true l4 l5 l6 l7 l8 l9 l10 x1 x2 x3 x4 x5 x6 (.tuple #[endV vb vc pad pcap, okV]) x8 x9 w' := by
  obtain ⟨h1, h2, h3, h4⟩ := h
  refine ⟨h1, ?_, h3, h4⟩
  rcases h2 with ⟨a, b, c, d, e, f, g, i, -⟩ | ⟨b, -⟩
  · subst b c d e f
    exact .inr ⟨rfl, rfl, rfl, rfl, vb, vc, pad, pcap, hv, rfl, (fun h => by cases h), (fun _ => ⟨rfl, rfl⟩), (fun h => by cases h), (fun _ => rfl), (fun h => by cases h), (fun _ => rfl)⟩
  · cases b
theorem DF.s4 {w : World} {l0 l1 l2 l5 l6 l7 l8 l9 l10 : Bool} {x1 x2 x3 x4 x5 x6 x7 x8 x9 : Value} {w' : World} (h : DF w l0 l1 l2 true false l5 l6 l7 l8 l9 l10 x1 x2 x3 x4 x5 x6 x7 x8 x9 w')  :
    DF w l0 l1 l2 true true l5 l6 l7 l8 l9 l10 x1 x2 x7 x4 x5 x6 x7 x8 x9 w' := by
  obtain ⟨h1, h2, h3, h4⟩ := h
  refine ⟨h1, ?_, h3, h4⟩
  rcases h2 with ⟨a, -⟩ | ⟨a, b, c, d, vb, vc, pad, pcap, h, e7, -, e4, r⟩
  · cases a
  · obtain ⟨rfl, rfl⟩ := e4 rfl
    exact .inr ⟨a, b, c, d, vb, vc, pad, pcap, h, e7, (fun _ => e7), (fun h => by cases h), r⟩
theorem DF.s5 {w : World} {l0 l1 l2 l3 l6 l7 l8 l9 l10 : Bool} {x1 x2 x3 x4 x5 x6 x7 x8 x9 : Value} {w' : World} (h : DF w l0 l1 l2 l3 true false l6 l7 l8 l9 l10 x1 x2 x3 x4 x5 x6 x7 x8 x9 w') {v : Value} (hv : ∀ y z, x3 = .tuple #[y, z] → v = y) :
    DF w l0 l1 l2 l3 true true l6 l7 l8 l9 l10 x1 x2 x3 x4 x5 x6 x7 v x9 w' := by
  obtain ⟨h1, h2, h3, h4⟩ := h
  rcases h2 with ⟨-, a, -⟩ | ⟨a, b, c, d, vb, vc, pad, pcap, h, e7, e4, -, -, e5, r⟩
  · cases a
  · have e9 := e5 rfl
    subst e9
    refine ⟨h1, .inr ⟨a, b, c, d, vb, vc, pad, pcap, h, e7, e4, (fun h => by cases h), (fun _ => hv _ _ (e4 rfl)), (fun h => by cases h), r⟩, ?_, h4⟩
    rcases h3 with h3 | ⟨q, c0, c1, c2, hb, -⟩
    · exact .inl h3
    · exact .inr ⟨q, c0, c1, c2, hb, fun h => by cases h⟩
theorem DF.s6 {w : World} {l0 l1 l2 l3 l5 l7 l8 l9 l10 : Bool} {x1 x2 x3 x4 x5 x6 x7 x8 x9 : Value} {w' : World} (h : DF w l0 l1 l2 l3 true l5 false l7 l8 l9 l10 x1 x2 x3 x4 x5 x6 x7 x8 x9 w') {v : Value} (hv : ∀ y z, x3 = .tuple #[y, z] → v = z) :
    DF w l0 l1 l2 l3 true l5 true l7 l8 l9 l10 x1 x2 x3 x4 x5 x6 x7 x8 v w' := by
  obtain ⟨h1, h2, h3, h4⟩ := h
  rcases h2 with ⟨-, a, -⟩ | ⟨a, b, c, d, vb, vc, pad, pcap, h, e7, e4, -, e5, e5', -, e6⟩
  · cases a
  · have e10 := e6 rfl
    subst e10
    refine ⟨h1, .inr ⟨a, b, c, d, vb, vc, pad, pcap, h, e7, e4, (fun h => by cases h), e5, e5', (fun _ => hv _ _ (e4 rfl)), (fun h => by cases h)⟩, h3, ?_⟩
    rcases h4 with h4 | ⟨q, c0, c1, hb, -⟩
    · exact .inl h4
    · exact .inr ⟨q, c0, c1, hb, fun h => by cases h⟩
theorem DF.s7 {w : World} {l0 l1 l2 l3 l4 l5 l6 l8 l9 l10 : Bool} {x1 x2 x3 x4 x5 x6 x7 x8 x9 : Value} {w' : World} (h : DF w l0 l1 l2 l3 l4 l5 l6 false l8 l9 l10 x1 x2 x3 x4 x5 x6 x7 x8 x9 w') {v c0 c1 c2 : Value} (hv : Blk3 w w' v c0 c1 c2) :
    DF w l0 l1 l2 l3 l4 l5 l6 true l8 l9 l10 v x2 x3 x4 x5 x6 x7 x8 x9 w' := by
  obtain ⟨h1, h2, h3, h4⟩ := h
  refine ⟨h1, h2, ?_, h4⟩
  rcases h3 with ⟨-, e⟩ | ⟨q, -⟩
  · exact .inr ⟨rfl, c0, c1, c2, hv, fun h => by rw [e] at h; cases h⟩
  · cases q
theorem DF.s8 {w : World} {l0 l1 l2 l3 l4 l5 l6 l7 l9 l10 : Bool} {x1 x2 x3 x4 x5 x6 x7 x8 x9 : Value} {w' : World} (h : DF w l0 l1 l2 l3 l4 l5 l6 l7 false l9 l10 x1 x2 x3 x4 x5 x6 x7 x8 x9 w') {v c0 c1 : Value} (hv : Blk2 w w' v c0 c1) :
    DF w l0 l1 l2 l3 l4 l5 l6 l7 true l9 l10 x1 v x3 x4 x5 x6 x7 x8 x9 w' := by
  obtain ⟨h1, h2, h3, h4⟩ := h
  refine ⟨h1, h2, h3, ?_⟩
  rcases h4 with ⟨-, e⟩ | ⟨q, -⟩
  · exact .inr ⟨rfl, c0, c1, hv, fun h => by rw [e] at h; cases h⟩
  · cases q
theorem other_block {w : World} {g k : Nat} {cs cs' : Array Value} {t t' : TypeId} {a : Addr} {u : Value} (hg : w.heap[g]? = some (Obj.cells cs t (0, 0))) (hk : w.heap[k]? = some (Obj.cells cs' t' (0, 0))) (ht : t ≠ t') (ha : a.block = g) : (w.setCell a u).heap[k]? = some (Obj.cells cs' t' (0, 0)) := by
  have hne : k ≠ g := by
    intro e
    subst e
    rw [hg] at hk
    simp at hk
    exact ht hk.2
  rw [Below.heap_setCell _ _ _ _ (by rw [ha]; exact hne)]
  exact hk

theorem DF.shape {w : World} {l0 l1 l2 l3 l4 l5 l6 l7 l8 l9 l10 : Bool} {x1 x2 x3 x4 x5 x6 x7 x8 x9 : Value} {w' : World} (h : DF w l0 l1 l2 l3 l4 l5 l6 l7 l8 l9 l10 x1 x2 x3 x4 x5 x6 x7 x8 x9 w') (h3 : l3 = true) : ∃ vb vc pad pcap, (l4 = true → x3 = .tuple #[endV vb vc pad pcap, okV]) ∧ (l5 = true → x8 = endV vb vc pad pcap) ∧ (l6 = true → x9 = okV) := by
  rcases h.mid with ⟨a, -⟩ | ⟨-, -, -, -, vb, vc, pad, pcap, -, -, e4, -, e5, -, e6, -⟩
  · rw [h3] at a; cases a
  · exact ⟨vb, vc, pad, pcap, e4, e5, e6⟩

theorem DF.s9 {w : World} {l0 l1 l2 l4 l6 l8 l9 l10 : Bool} {x1 x2 x3 x4 x5 x6 x7 x8 x9 : Value} {w' : World} {g : Nat} {c0 c1 c2 d0 d1 d2 : Value} (h : DF w l0 l1 l2 true l4 true l6 true l8 l9 l10 x1 x2 x3 x4 x5 x6 x7 x8 x9 w') (hx : x1 = .pointer (some ⟨g, 0, none⟩)) (hg0 : w.heap.size ≤ g) (hg : w'.heap[g]? = some (.cells #[c0, c1, c2] 27 (0, 0))) (h8 : x8 = .agg #[d0, d1, d2]) :
    DF w l0 l1 l2 true l4 true l6 true l8 true l10 x1 x2 x3 x4 x5 x6 x7 x8 x9 (((w'.setCell ⟨g, 0, none⟩ d0).setCell ⟨g, 1, none⟩ d1).setCell ⟨g, 2, none⟩ d2) := by
  obtain ⟨h1, h2, h3, h4⟩ := h
  have q1 := setCell_at (i := 0) (u := d0) hg
  have q2 := setCell_at (i := 1) (u := d1) q1
  have q3 := setCell_at (i := 2) (u := d2) q2
  have mv : ∀ (k : Nat) (cs : Array Value) (t : TypeId), t ≠ 27 → w'.heap[k]? = some (Obj.cells cs t (0, 0)) → (((w'.setCell ⟨g, 0, none⟩ d0).setCell ⟨g, 1, none⟩ d1).setCell ⟨g, 2, none⟩ d2).heap[k]? = some (Obj.cells cs t (0, 0)) := fun k cs t ht hk =>
    other_block q2 (other_block q1 (other_block hg hk (Ne.symm ht) rfl) (Ne.symm ht) rfl) (Ne.symm ht) rfl
  refine ⟨((h1.setCell hg0 _).setCell hg0 _).setCell hg0 _, ?_, .inr ⟨rfl, d0, d1, d2, ⟨g, hx, hg0, by simpa using q3⟩, fun _ => h8⟩, ?_⟩
  · rcases h2 with ⟨a, -⟩ | ⟨a, b, c, d, vb, vc, pad, pcap, h, e7, e4, e4', e5, -, r⟩
    · cases a
    · exact .inr ⟨a, b, c, d, vb, vc, pad, pcap, h.move (fun k cs t ht hk => mv k cs t (by rcases ht with rfl | rfl <;> decide) hk), e7, e4, e4', e5, (fun h => by cases h), r⟩
  · rcases h4 with h4 | ⟨q, b0, b1, ⟨k, hk1, hk2, hk3⟩, r⟩
    · exact .inl h4
    · exact .inr ⟨q, b0, b1, ⟨k, hk1, hk2, mv k _ 30 (by decide) hk3⟩, r⟩

theorem DF.s10 {w : World} {l0 l1 l2 l4 l5 l7 l9 l10 : Bool} {x1 x2 x3 x4 x5 x6 x7 x8 x9 : Value} {w' : World} {g : Nat} {c0 c1 d0 d1 : Value} (h : DF w l0 l1 l2 true l4 l5 true l7 true l9 l10 x1 x2 x3 x4 x5 x6 x7 x8 x9 w') (hx : x2 = .pointer (some ⟨g, 0, none⟩)) (hg0 : w.heap.size ≤ g) (hg : w'.heap[g]? = some (.cells #[c0, c1] 30 (0, 0))) (h9 : x9 = .agg #[d0, d1]) :
    DF w l0 l1 l2 true l4 l5 true l7 true l9 true x1 x2 x3 x4 x5 x6 x7 x8 x9 ((w'.setCell ⟨g, 0, none⟩ d0).setCell ⟨g, 1, none⟩ d1) := by
  obtain ⟨h1, h2, h3, h4⟩ := h
  have q1 := setCell_at (i := 0) (u := d0) hg
  have q2 := setCell_at (i := 1) (u := d1) q1
  have mv : ∀ (k : Nat) (cs : Array Value) (t : TypeId), t ≠ 30 → w'.heap[k]? = some (Obj.cells cs t (0, 0)) → ((w'.setCell ⟨g, 0, none⟩ d0).setCell ⟨g, 1, none⟩ d1).heap[k]? = some (Obj.cells cs t (0, 0)) := fun k cs t ht hk =>
    other_block q1 (other_block hg hk (Ne.symm ht) rfl) (Ne.symm ht) rfl
  refine ⟨(h1.setCell hg0 _).setCell hg0 _, ?_, ?_, .inr ⟨rfl, d0, d1, ⟨g, hx, hg0, by simpa using q2⟩, fun _ => h9⟩⟩
  · rcases h2 with ⟨a, -⟩ | ⟨a, b, c, d, vb, vc, pad, pcap, h, e7, e4, e4', e5, e5', e6, -⟩
    · cases a
    · exact .inr ⟨a, b, c, d, vb, vc, pad, pcap, h.move (fun k cs t ht hk => mv k cs t (by rcases ht with rfl | rfl <;> decide) hk), e7, e4, e4', e5, e5', e6, (fun h => by cases h)⟩
  · rcases h3 with h3 | ⟨q, b0, b1, b2, ⟨k, hk1, hk2, hk3⟩, r⟩
    · exact .inl h3
    · exact .inr ⟨q, b0, b1, b2, ⟨k, hk1, hk2, mv k _ 27 (by decide) hk3⟩, r⟩

theorem zeros_made (w : World) : IntSl (w.alloc (.cells #[.int .i64 0, .int .i64 0, .int .i64 0, .int .i64 0, .int .i64 0, .int .i64 0, .int .i64 0, .int .i64 0] 3)) zeros8 (.slice (some ⟨w.heap.size, 0, none⟩) 8 8) := by
  refine ⟨_, _, rfl, .inr ⟨w.heap.size, 0, rfl, fun j hj => ?_⟩⟩
  have := (cells_of (l := [.int .i64 0, .int .i64 0, .int .i64 0, .int .i64 0, .int .i64 0, .int .i64 0, .int .i64 0, .int .i64 0]) (heap_alloc_new w (.cells #[.int .i64 0, .int .i64 0, .int .i64 0, .int .i64 0, .int .i64 0, .int .i64 0, .int .i64 0, .int .i64 0] 3))).1 j (.int .i64 (zeros8.getD j 0))
  rw [Nat.zero_add]
  apply this
  have hj' : j < 8 := hj
  have : j = 0 ∨ j = 1 ∨ j = 2 ∨ j = 3 ∨ j = 4 ∨ j = 5 ∨ j = 6 ∨ j = 7 := by omega
  rcases this with rfl | rfl | rfl | rfl | rfl | rfl | rfl | rfl <;> rfl

theorem fives_made (w : World) : IntSl (w.alloc (.cells #[.int .i64 5, .int .i64 0, .int .i64 0, .int .i64 0] 3)) fives4 (.slice (some ⟨w.heap.size, 0, none⟩) 4 4) := by
  refine ⟨_, _, rfl, .inr ⟨w.heap.size, 0, rfl, fun j hj => ?_⟩⟩
  have := (cells_of (l := [.int .i64 5, .int .i64 0, .int .i64 0, .int .i64 0]) (heap_alloc_new w (.cells #[.int .i64 5, .int .i64 0, .int .i64 0, .int .i64 0] 3))).1 j (.int .i64 (fives4.getD j 0))
  rw [Nat.zero_add]
  apply this
  have hj' : j < 4 := hj
  have : j = 0 ∨ j = 1 ∨ j = 2 ∨ j = 3 := by omega
  rcases this with rfl | rfl | rfl | rfl <;> rfl

theorem puts_made (w : World) : PutSl (w.alloc (.cells #[.int .i64 1, .int .i64 30] 43)) doneP (.slice (some ⟨w.heap.size, 0, none⟩) 1 1) := by
  refine ⟨_, _, rfl, .inr ⟨w.heap.size, 0, rfl, fun j hj => ?_⟩⟩
  have h := (cells_of (l := [.int .i64 1, .int .i64 30]) (heap_alloc_new w (.cells #[.int .i64 1, .int .i64 30] 43))).1
  have hj' : j < 1 := hj
  have : j = 0 := by omega
  subst this
  exact ⟨h 0 _ rfl, h 1 _ rfl⟩

set_option maxRecDepth 20000 in
set_option maxHeartbeats 4000000 in
/-- image: the law's own. -/
theorem image_any (w : World) : Calls Tryd.prog 19 #[] w fun r w' => (∃ ad c, r = .returned (.slice ad imageL.length c) ∧ InSl w' imageL (.slice ad imageL.length c) ∧ (ad = none → imageL.length = 0 ∧ c = 0)) ∧ Below w.heap.size w w' := by
  go_enter Tryd.func19, Tryd.ntmps19
  go_wp2_with fail
  go_ret
  refine ⟨⟨_, _, rfl, ?_, fun e => by cases e⟩, below_new _ _⟩
  refine ⟨_, _, rfl, .inr ⟨w.heap.size, 0, rfl, fun j hj => ?_⟩⟩
  have h := (cells_of (l := insVs imageL) (heap_alloc_new w (.cells (insVs imageL).toArray 35))).1
  obtain ⟨a0, a1, a2⟩ := insVs_at imageL j hj
  rw [Nat.zero_add]
  exact ⟨h _ _ a0, h _ _ a1, h _ _ a2⟩


/-- Run, of the law's own image. -/
theorem run_own (w : World) (v : Value) (k m : Nat) (hr : KindsIn w) (hb : BodyAt w v) (hv : IntSl w zeros8 (.slice (some ⟨k, 0, none⟩) 8 8)) (hi : IntSl w fives4 (.slice (some ⟨m, 0, none⟩) 4 4)) :
    Calls Tryd.prog 12 #[v, .slice (some ⟨k, 0, none⟩) 8 8, .slice (some ⟨m, 0, none⟩) 4 4] w fun r w' => ∃ vb vc pad pcap, r = .returned (.tuple #[endV vb vc pad pcap, okV]) ∧ RanAt w' vb vc pad pcap ∧ Below w.heap.size w w' := by
  obtain ⟨ad, c, rfl, h1, h2⟩ := hb
  refine (Run_is w imageL ad c _ _ 8 4 zeros8 fives4 hr h1 h2 hv hi).mono fun r w' h => ?_
  obtain ⟨hbw, u, q, he, hu, ho, -⟩ := h
  rw [res_image] at he hu ho
  obtain ⟨vb, vc, rfl, hvb, -⟩ := VB.of_owns hu rfl
  obtain ⟨pad, pcap, rfl⟩ := owns_value ho
  exact ⟨vb, vc, pad, pcap, he, ⟨hvb, _, ho⟩, hbw⟩
end Go.Proofs.YtibcbdihphbfeacDoor
namespace Go.Proofs.YtibcbdihphbfeacDoor
open Go.ChangeShapes Go.WideShapes Go.ChangeAt Go.RowKit

set_option maxRecDepth 20000 in
set_option maxHeartbeats 4000000 in
theorem works_b (hplain : ∀ w : World, Calls Tryd.prog 19 #[] w fun r w' => ∃ v, r = .returned v ∧ BodyAt w' v ∧ Below w.heap.size w w') (w : World) (hr : KindsIn w) :
    Calls Tryd.prog 8 #[] w fun r w' => r = .returned (.bool true) ∧ Below w.heap.size w w' := by
  have HP : Hid _ := hplain
  have HR : Hid (KindsIn w) := hr
  clear hplain hr
  obtain ⟨i0, hi0, hz0, hz1, hz2⟩ := info_parts info3
  have hmk : ∀ W : World, (Instr.makeSlice 23 (.int .i64 8) (.int .i64 8)).run Tryd.prog W = .ok (.slice (some ⟨W.heap.size, 0, none⟩) 8 8) (W.alloc (.cells #[.int .i64 0, .int .i64 0, .int .i64 0, .int .i64 0, .int .i64 0, .int .i64 0, .int .i64 0, .int .i64 0] 3)) := by
    intro W
    have h := run_make (P := Tryd.prog) W 23 3 i0 _ Tryd.underlying23 hi0 hz0 .i64 .i64 8 8 (by decide) (by decide) (by rw [hz2]; decide) (by decide)
    rw [hz1] at h
    have e : madeCells (Value.int .i64 0).cells (Int.toNat 8 * 1) = #[.int .i64 0, .int .i64 0, .int .i64 0, .int .i64 0, .int .i64 0, .int .i64 0, .int .i64 0, .int .i64 0] := by kernel_rfl
    rw [e] at h
    exact h
  clear hi0 hz0 hz1 hz2
  go_enter Tryd.func8, Tryd.ntmps8
  go_wp2_with fail
  go_cut [1, 2] from 1 to 1 (fun x y wc => ∃ g g' vb vc pad pcap, x = .pointer (some ⟨g, 0, none⟩) ∧ y = .pointer (some ⟨g', 0, none⟩) ∧ Hid (RanAt wc vb vc pad pcap ∧ Below w.heap.size w wc) ∧ wc.heap[g]? = some (.cells #[.slice (some ⟨vb, 0, none⟩) 8 vc, .slice pad 1 pcap, .int .i64 28] 27 (0, 0)) ∧ wc.heap[g']? = some (.cells #[.int .i64 0, .int .i64 0] 30 (0, 0)))
  case first =>
    refine wp_region_any (by kernel_rfl) (wpAny_inv (fun l a w' => ∃ l0 l1 l2 l3 l4 l5 l6 l7 l8 l9 l10 : Bool, ∃ x1 x2 x3 x4 x5 x6 x7 x8 x9 : Value, l = #[l0, l1, l2, l3, l4, l5, l6, l7, l8, l9, l10] ∧ a = ⟨#[.bool false, x1, x2, x3, x4, x5, x6, x7, x8, x9, undef, undef, undef, undef, undef, undef, undef, undef, undef, undef, undef, undef, undef, undef, undef, undef, undef, undef, undef, undef, undef, undef, undef, undef, undef, undef, undef, undef], []⟩ ∧ DF w l0 l1 l2 l3 l4 l5 l6 l7 l8 l9 l10 x1 x2 x3 x4 x5 x6 x7 x8 x9 w') ?_ ?_ _ _ _ _ ?_ ?_)
    · rintro l a w' ⟨l0, l1, l2, l3, l4, l5, l6, l7, l8, l9, l10, x1, x2, x3, x4, x5, x6, x7, x8, x9, rfl, rfl, hf⟩ hr
      have hn : ∀ i : Nat, ¬ (i ∈ ([] : List Nat)) := fun i h => by cases h
      rw [← hr] at hn
      have h0 := hn 0
      have h1 := hn 1
      have h2 := hn 2
      have h7 := hn 7
      have h8 := hn 8
      simp [Region.ready, Region.binds] at h0 h1 h2 h7 h8
      subst h0 h1 h2 h7 h8
      have h3 := hn 3
      simp [Region.ready, Region.binds] at h3
      subst h3
      have h4 := hn 4
      simp [Region.ready, Region.binds] at h4
      subst h4
      have h5 := hn 5
      simp [Region.ready, Region.binds] at h5
      subst h5
      have h6 := hn 6
      have h9 := hn 9
      simp [Region.ready, Region.binds] at h6 h9
      subst h6 h9
      have h10 := hn 10
      simp [Region.ready, Region.binds] at h10
      subst h10
      have hl := hf.last
      clear hn hr hf HP HR hmk
      dsimp only
      go_wp2_with fail
      go_meet
      case rel => exact hl
    · rintro l a w' i ⟨l0, l1, l2, l3, l4, l5, l6, l7, l8, l9, l10, x1, x2, x3, x4, x5, x6, x7, x8, x9, rfl, rfl, hf⟩ hi
      have hlt : i < 11 := by unfold Region.ready at hi; exact List.mem_range.1 (List.mem_filter.1 hi).1
      have h11 : i = 0 ∨ i = 1 ∨ i = 2 ∨ i = 3 ∨ i = 4 ∨ i = 5 ∨ i = 6 ∨ i = 7 ∨ i = 8 ∨ i = 9 ∨ i = 10 := by omega
      have HF : Hid _ := hf
      clear hf hlt
      rcases h11 with rfl | rfl | rfl | rfl | rfl | rfl | rfl | rfl | rfl | rfl | rfl
      all_goals simp [Region.ready, Region.binds] at hi
      all_goals refine wpOp_step rfl ?_
      all_goals intro K hK
      all_goals have HK : Hid _ := hK
      all_goals clear hK
      · subst hi
        go_simp
        refine (HP.out w').mono ?_
        rintro r w4 ⟨v4, rfl, hv4, hb4⟩
        exact HK.out _ _ ⟨true, l1, l2, l3, l4, l5, l6, l7, l8, l9, l10, x1, x2, x3, v4, x5, x6, x7, x8, x9, rfl, rfl, (HF.out.grow hb4).s0 hv4⟩
      · subst hi
        go_simp
        exact HK.out _ _ ⟨l0, true, l2, l3, l4, l5, l6, l7, l8, l9, l10, x1, x2, x3, x4, _, x6, x7, x8, x9, rfl, rfl, (HF.out.grow (below_new _ _)).s1 ⟨_, rfl, zeros_made w'⟩⟩
      · subst hi
        go_simp
        exact HK.out _ _ ⟨l0, l1, true, l3, l4, l5, l6, l7, l8, l9, l10, x1, x2, x3, x4, x5, _, x7, x8, x9, rfl, rfl, (HF.out.grow (below_new _ _)).s2 ⟨_, rfl, fives_made w'⟩⟩
      · obtain ⟨rfl, rfl, rfl, rfl, -⟩ := hi
        rcases HF.out.mid with ⟨-, -, -, -, -, -, hB, hZ, hF⟩ | ⟨q, -⟩
        · obtain ⟨k, rfl, hz⟩ := hZ rfl
          obtain ⟨m, rfl, hf⟩ := hF rfl
          have HB : Hid _ := hB rfl
          have HZ : Hid (_ ∧ _) := ⟨hz, hf⟩
          clear hB hZ hF hz hf
          go_simp
          refine (run_own w' _ k m (HR.out.below HF.out.bel) HB.out HZ.out.1 HZ.out.2).mono ?_
          rintro r w4 ⟨vb, vc, pad, pcap, rfl, hv4, hb4⟩
          exact HK.out _ _ ⟨true, true, true, true, l4, l5, l6, l7, l8, l9, l10, x1, x2, x3, x4, _, _, _, x8, x9, rfl, rfl, (HF.out.grow hb4).s3 hv4⟩
        · cases q
      · obtain ⟨rfl, rfl⟩ := hi
        go_simp
        exact HK.out _ _ ⟨l0, l1, l2, true, true, l5, l6, l7, l8, l9, l10, x1, x2, x7, x4, x5, x6, x7, x8, x9, rfl, rfl, HF.out.s4⟩
      · obtain ⟨rfl, rfl⟩ := hi
        rcases HF.out.mid with ⟨-, q, -⟩ | ⟨rfl, -, -, -, vb, vc, pad, pcap, -, -, e4, -⟩
        · cases q
        · have e := e4 rfl
          clear e4
          subst e
          go_simp
          exact HK.out _ _ ⟨l0, l1, l2, true, true, true, l6, l7, l8, l9, l10, x1, x2, _, x4, x5, x6, x7, _, x9, rfl, rfl, HF.out.s5 (fun y z h => by cases h; rfl)⟩
      · obtain ⟨rfl, rfl⟩ := hi
        rcases HF.out.mid with ⟨-, q, -⟩ | ⟨rfl, -, -, -, vb, vc, pad, pcap, -, -, e4, -⟩
        · cases q
        · have e := e4 rfl
          clear e4
          subst e
          go_simp
          exact HK.out _ _ ⟨l0, l1, l2, true, true, l5, true, l7, l8, l9, l10, x1, x2, _, x4, x5, x6, x7, x8, _, rfl, rfl, HF.out.s6 (fun y z h => by cases h; rfl)⟩
      · subst hi
        go_simp
        exact HK.out _ _ ⟨l0, l1, l2, l3, l4, l5, l6, true, l8, l9, l10, _, x2, x3, x4, x5, x6, x7, x8, x9, rfl, rfl, (HF.out.grow (below_new _ _)).s7 ⟨_, rfl, HF.out.bel.size, heap_alloc_new w' _⟩⟩
      · subst hi
        go_simp
        exact HK.out _ _ ⟨l0, l1, l2, l3, l4, l5, l6, l7, true, l9, l10, x1, _, x3, x4, x5, x6, x7, x8, x9, rfl, rfl, (HF.out.grow (below_new _ _)).s8 ⟨_, rfl, HF.out.bel.size, heap_alloc_new w' _⟩⟩
      · obtain ⟨rfl, rfl, rfl, rfl, -⟩ := hi
        obtain ⟨vb, vc, pad, pcap, -, e8, -⟩ := HF.out.shape rfl
        have e8' := e8 rfl
        clear e8
        unfold endV at e8'
        subst e8'
        rcases HF.out.b3 with ⟨q, -⟩ | ⟨-, c0, c1, c2, ⟨g, rfl, hg0, hg⟩, -⟩
        · cases q
        · obtain ⟨c, f, lt⟩ := cells_of (l := [_, _, _]) hg
          have k0 := c 0 _ rfl
          have k1 := c 1 _ rfl
          have k2 := c 2 _ rfl
          have HG : Hid _ := hg
          clear c hg
          go_simp
          exact HK.out _ _ ⟨l0, l1, l2, true, l4, true, l6, true, l8, true, l10, _, x2, x3, x4, x5, x6, x7, _, x9, rfl, rfl, HF.out.s9 rfl hg0 HG.out rfl⟩
      · obtain ⟨rfl, rfl, rfl, -, -, -, -, rfl, -⟩ := hi
        obtain ⟨vb, vc, pad, pcap, -, -, e9⟩ := HF.out.shape rfl
        have e9' := e9 rfl
        clear e9
        unfold okV at e9'
        subst e9'
        rcases HF.out.b2 with ⟨q, -⟩ | ⟨-, c0, c1, ⟨g, rfl, hg0, hg⟩, -⟩
        · cases q
        · obtain ⟨c, f, lt⟩ := cells_of (l := [_, _]) hg
          have k0 := c 0 _ rfl
          have k1 := c 1 _ rfl
          have HG : Hid _ := hg
          clear c hg
          go_simp
          exact HK.out _ _ ⟨l0, l1, l2, true, l4, l5, true, l7, true, l9, true, x1, _, x3, x4, x5, x6, x7, x8, _, rfl, rfl, HF.out.s10 rfl hg0 HG.out rfl⟩
    · exact ⟨false, false, false, false, false, false, false, false, false, false, false, undef, undef, undef, undef, undef, undef, undef, undef, undef, rfl, rfl, ⟨(Below.refl _ w).drew, .inl ⟨rfl, rfl, rfl, rfl, rfl, rfl, (fun h => by cases h), (fun h => by cases h), (fun h => by cases h)⟩, .inl ⟨rfl, rfl⟩, .inl ⟨rfl, rfl⟩⟩⟩
    · simp
  case rest =>
    obtain ⟨g, g', vb, vc, pad, pcap, rfl, rfl, HC, hg, hg'⟩ := hcut
    obtain ⟨c, f, lt⟩ := cells_of (l := [_, _, _]) hg
    obtain ⟨c', f', lt'⟩ := cells_of (l := [_, _]) hg'
    have k0 := c 0 _ rfl
    have k1 := c 1 _ rfl
    have k2 := c 2 _ rfl
    have q0 := c' 0 _ rfl
    have v0 : wc.cell? ⟨vb, 0, none⟩ = some (.int .i64 15) := by
      obtain ⟨-, cs, h1, -, h3⟩ := HC.out.1.1
      unfold World.cell?
      rw [h1]
      exact h3 0 (by decide)
    clear c c' f f' hg hg' HP HR hmk
    go_wp2_with (go_at_call 40; refine (SameP_any _ doneP _ _ (by decide) ((PutSl.of_own HC.out.1.2.choose_spec).below (below_new _ _)) (puts_made wc)).mono ?_; rintro r w4 ⟨rfl, hb4⟩; have H4 : Hid (Below w.heap.size w w4) := below_seq HC.out.2 (below_seq (below_new _ _) hb4); clear hb4)
    go_ret
    exact ⟨rfl, H4.out⟩

theorem image_body (w : World) : Calls Tryd.prog 19 #[] w fun r w' => ∃ v, r = .returned v ∧ BodyAt w' v ∧ Below w.heap.size w w' :=
  (image_any w).mono fun _ _ ⟨⟨ad, c, h1, h2, h3⟩, h4⟩ => ⟨_, h1, ⟨ad, c, rfl, h2, h3⟩, h4⟩

theorem works_any (w : World) (hr : KindsIn w) : Calls Tryd.prog 8 #[] w fun r w' => r = .returned (.bool true) ∧ Below w.heap.size w w' := works_b image_body w hr
end Go.Proofs.YtibcbdihphbfeacDoor
namespace Go.Proofs.YtibcbdihphbfeacDoor
open Go.ChangeShapes Go.WideShapes Go.ChangeAt Go.RowKit

theorem setCells_else {g k : Nat} (h : k ≠ g) : ∀ (l : List Value) (o : Nat) (w : World), (w.setCells g o l).heap[k]? = w.heap[k]?
  | [], _, _ => rfl
  | v :: r, o, w => by
    show ((w.setCell ⟨g, o, none⟩ v).setCells g (o + 1) r).heap[k]? = _
    rw [setCells_else h r (o + 1) _, Below.heap_setCell _ _ _ _ h]

set_option maxRecDepth 20000 in
set_option maxHeartbeats 4000000 in
/-- Spoil, of numbers: it changes their own block alone. -/
theorem SpoilN_own (w : World) (B : Nat) (v : Value) (n : Nat) (xs : List Value) (h : w.ownsRow B 3 1 v n xs) :
    Calls Tryd.prog 16 #[v] w fun r w' => r = .returned (.tuple #[]) ∧ Below B w w' ∧ ∀ k, v.ownBlock ≠ some k → w'.heap[k]? = w.heap[k]? := by
  obtain ⟨i0, hi0, hz0, hz1, hz2⟩ := info_parts info3
  obtain ⟨-, ⟨rfl, rfl⟩ | ⟨g, cap, cur, rfl, hB, hg, hn, hm, hs, -⟩⟩ := h
  · have hcl : ∀ ty, (Builtin.clear_ #[23] ty #[.slice none 0 0]).run Tryd.prog w = .ok (.tuple #[]) w := fun ty => by
      simp [Builtin.clear_, run_underlying Tryd.underlying23]
    go_enter Tryd.func16, Tryd.ntmps16
    go_wp2
    go_end0
    exact ⟨rfl, Below.refl _ _, fun _ _ => rfl⟩
  · have hz : ∀ w, (zeroValue 3).run Tryd.prog w = .ok (.int .i64 0) w := fun w => by simp [zeroValue, typeInfo, hi0, hz0]
    have hcl : ∀ ty, (Builtin.clear_ #[23] ty #[.slice (some ⟨g, 0, none⟩) cap cap]).run Tryd.prog w = .ok (.tuple #[]) (w.setCells g 0 (List.replicate cap (.int .i64 0))) := fun ty => by
      by_cases hc : cap = 0
      · subst hc
        simp [Builtin.clear_, run_underlying Tryd.underlying23, World.setCells]
      · exact Lib.run_clear_slice w 23 3 ty (.int .i64 0) Tryd.underlying23 hz rfl rfl g 0 cap cap (by omega) (fun j hj => by unfold World.cell?; rw [hg]; simp; omega) (fun j hj => by unfold World.frozen?; rw [hg]; simp)
    have HB : Hid (Below B w (w.setCells g 0 (List.replicate cap (.int .i64 0))) ∧ ∀ k, (Value.slice (some ⟨g, 0, none⟩) n cap).ownBlock ≠ some k → (w.setCells g 0 (List.replicate cap (.int .i64 0))).heap[k]? = w.heap[k]?) := ⟨below_setCells hB _ 0 w, fun k hk => setCells_else (fun e => hk (by rw [e]; rfl)) _ _ _⟩
    unfold maxLen at hm
    clear hg hz hs
    go_enter Tryd.func16, Tryd.ntmps16
    go_wp2
    go_end0
    exact ⟨rfl, HB.out⟩
end Go.Proofs.YtibcbdihphbfeacDoor
