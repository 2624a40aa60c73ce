import Derived.Test.YtibcbdihphbfeacDoorGSpoil
import Derived.Test.YtibcbdihphbfeacDoorGStill
namespace Go.Proofs.YtibcbdihphbfeacDoor
open Go.ChangeShapes Go.WideShapes Go.ChangeAt Go.RowKit

/-- A run's answers in two variables. -/
def Kept2 (w : World) (g : Nat) (x y z c k : Value) : Prop := w.heap[g]? = some (.cells #[x, y, z] 27 (0, 0)) ∧ w.heap[g + 1]? = some (.cells #[c, k] 30 (0, 0))

theorem Kept2.below {w w' : World} {g : Nat} {x y z c k : Value} (h : Kept2 w g x y z c k) (hb : Below w.heap.size w w') : Kept2 w' g x y z c k :=
  ⟨(hb.block _ (Array.getElem?_eq_some_iff.1 h.1).1).trans h.1, (hb.block _ (Array.getElem?_eq_some_iff.1 h.2).1).trans h.2⟩

theorem Kept2.made (w : World) (x y z c k : Value) : Kept2 ((w.alloc (.cells #[x, y, z] 27)).alloc (.cells #[c, k] 30)) w.heap.size x y z c k := by
  constructor
  · rw [Below.heap_alloc _ _ _ (by simp)]; exact heap_alloc_new w _
  · have := heap_alloc_new (w.alloc (.cells #[x, y, z] 27)) (.cells #[c, k] 30)
    simpa using this


/-- The law's marks. -/
def Marks (w : World) : Prop := w.cell? ⟨0, 0, none⟩ = some (.int .i64 (-1)) ∧ w.cell? ⟨0, 1, none⟩ = some (.int .i64 (-2)) ∧ w.cell? ⟨0, 2, none⟩ = some (.int .i64 (-3))
theorem Marks.below {w w' : World} (h : Marks w) (hb : Below w.heap.size w w') : Marks w' := ⟨below_cell hb h.1, below_cell hb h.2.1, below_cell hb h.2.2⟩

theorem ownsRow_own {w w' : World} {B n size : Nat} {e : TypeId} {v : Value} {xs : List Value} (h : w.ownsRow B e size v n xs) (hb : ∀ k, v.ownBlock = some k → w'.heap[k]? = w.heap[k]?) : w'.ownsRow B e size v n xs := by
  obtain ⟨hl, h | ⟨g, cap, cur, he, hB, hg, hr⟩⟩ := h
  · exact ⟨hl, .inl h⟩
  · refine ⟨hl, .inr ⟨g, cap, cur, he, hB, (hb g ?_).trans hg, hr⟩⟩
    rw [he]; rfl

set_option maxRecDepth 20000 in
set_option maxHeartbeats 8000000 in
/-- MachRuns: the law. -/
theorem runs_walk (w : World) (l : List In) (vs is : List Int) (iad va ia : Option Addr) (ic vc nc : Nat) (hk : KindsIn w) (hmk : Marks w) (h : InSl w l (.slice iad l.length ic)) (hnil : iad = none → l.length = 0 ∧ ic = 0) (hlv : vs.length ≤ 1048576) (hli : is.length ≤ 1048576)
    (hv : IntSl w vs (.slice va vs.length vc)) (hi : IntSl w is (.slice ia is.length nc)) (hvn : va = none → vs.length = 0 ∧ vc = 0) (hin : ia = none → is.length = 0 ∧ nc = 0) :
    Calls Tryd.prog 3 #[.slice iad l.length ic, .slice va vs.length vc, .slice ia is.length nc] w fun r w' => r = .returned (.bool true) ∧ Below w.heap.size w w' := by
  rcases hm : resF l vs is with ⟨⟨fc, fk⟩, rv, rp, rt⟩
  have hlen := res_len l vs is
  rw [hm] at hlen
  dsimp only at hlen
  have HA : Hid ((KindsIn w ∧ Marks w ∧ InSl w l (.slice iad l.length ic) ∧ (iad = none → l.length = 0 ∧ ic = 0)) ∧ resF l vs is = ((fc, fk), rv, rp, rt) ∧ (IntSl w vs (.slice va vs.length vc) ∧ (va = none → vs.length = 0 ∧ vc = 0)) ∧ (IntSl w is (.slice ia is.length nc) ∧ (ia = none → is.length = 0 ∧ nc = 0))) := ⟨⟨hk, hmk, h, hnil⟩, hm, ⟨hv, hvn⟩, ⟨hi, hin⟩⟩
  clear hk hmk h hnil hm hv hvn hi hin
  by_cases hbig : 3000 < l.length
  · have hb3 : (3000 : Int) < (l.length : Int) := by omega
    go_enter Tryd.func3, Tryd.ntmps3
    go_wp2_with (go_at_call 8; refine (works_any w HA.out.1.1).mono ?_; rintro r w1 ⟨rfl, hb1⟩; have H1 : Hid (Below w.heap.size w w1) := hb1; clear hb1)
    go_ret
    exact ⟨rfl, H1.out⟩
  · have hb3 : ¬ (3000 : Int) < (l.length : Int) := by omega
    go_enter Tryd.func3, Tryd.ntmps3
    go_wp2_with (go_at_call 8; refine (works_any w HA.out.1.1).mono ?_; rintro r w1 ⟨rfl, hb1⟩; have H1 : Hid (Below w.heap.size w w1) := hb1; clear hb1)
    go_wp2_with (go_at_call 9; refine (Exec_is w1 l _ _ _ _ _ _ vs is (HA.out.1.2.2.1.below H1.out) (HA.out.2.2.1.1.below H1.out) (HA.out.2.2.2.1.below H1.out)).mono ?_; rintro r w3 ⟨hb3', u3, q3, rfl, hu3, hq3⟩; rw [HA.out.2.1] at hu3 hq3 ⊢; unfold ansV; have H3 : Hid (IntSl w3 rv u3 ∧ PutSl w3 rp q3 ∧ Below w.heap.size w w3) := ⟨hu3, hq3, below_seq H1.out hb3'⟩; obtain ⟨vad, vcap, rfl, -⟩ := hu3; obtain ⟨pad, pcap, rfl, -⟩ := hq3; obtain ⟨g0, g1, g2⟩ := HA.out.1.2.1.below H3.out.2.2; have hz0 : 0 < w3.heap.size := World.block_lt_of_cell? _ _ g0; clear hb3')
    have H3' : Hid (Kept2 ((w3.alloc (.cells #[.slice vad rv.length vcap, .slice pad rp.length pcap, .int .i64 rt] 27)).alloc (.cells #[.int .i64 fc, .int .i64 fk] 30)) w3.heap.size (.slice vad rv.length vcap) (.slice pad rp.length pcap) (.int .i64 rt) (.int .i64 fc) (.int .i64 fk) ∧ Below w3.heap.size w3 ((w3.alloc (.cells #[.slice vad rv.length vcap, .slice pad rp.length pcap, .int .i64 rt] 27)).alloc (.cells #[.int .i64 fc, .int .i64 fk] 30)) ∧ Below w.heap.size w ((w3.alloc (.cells #[.slice vad rv.length vcap, .slice pad rp.length pcap, .int .i64 rt] 27)).alloc (.cells #[.int .i64 fc, .int .i64 fk] 30))) := by
      have h1 : Below w3.heap.size w3 ((w3.alloc (.cells #[.slice vad rv.length vcap, .slice pad rp.length pcap, .int .i64 rt] 27)).alloc (.cells #[.int .i64 fc, .int .i64 fk] 30)) := (below_new _ _).alloc (by simp) _
      exact ⟨Kept2.made w3 _ _ _ _ _, h1, below_seq H3.out.2.2 h1⟩
    clear g0 g1 g2 hz0
    generalize (w3.alloc (.cells #[.slice vad rv.length vcap, .slice pad rp.length pcap, .int .i64 rt] 27)).alloc (.cells #[.int .i64 fc, .int .i64 fk] 30) = w3' at *
    go_wp2_with (go_at_call 10; refine (Lend_any w3' l ⟨-1, -2, -3⟩ _ _ (by omega) (HA.out.1.2.2.1.below H3'.out.2.2) HA.out.1.2.2.2).mono ?_; rintro r w4 ⟨u4, rfl, hu4, hb4⟩; have H4 : Hid (LentI w4 l ⟨-1, -2, -3⟩ u4 ∧ Below w3'.heap.size w3' w4 ∧ Below w.heap.size w w4) := ⟨hu4, hb4, below_seq H3'.out.2.2 hb4⟩; obtain ⟨ob, oo, ocap, rfl, -⟩ := hu4; clear hb4)
    have PH : Phase 1 := trivial
    go_wp2_with (go_at_call 11; guard_hyp PH : Phase 1; clear PH; refine (LendN_any w4 vs (-9) va vc (by omega) (HA.out.2.2.1.1.below H4.out.2.2) HA.out.2.2.1.2).mono ?_; rintro r w5 ⟨v5, rfl, hl5, hb5⟩; have H5 : Hid (LentSl w5 vs (-9) v5 ∧ Below w4.heap.size w4 w5 ∧ Below w.heap.size w w5) := ⟨hl5, hb5, below_seq H4.out.2.2 hb5⟩; obtain ⟨lb, lo, lc, rfl, -⟩ := hl5; clear hb5; have PH : Phase 2 := trivial)
    go_wp2_with (go_at_call 11; guard_hyp PH : Phase 2; clear PH; refine (LendN_any w5 is (-9) ia nc (by omega) (HA.out.2.2.2.1.below H5.out.2.2) HA.out.2.2.2.2).mono ?_; rintro r w6 ⟨v6, rfl, hl6, hb6⟩; have H6 : Hid (LentSl w6 is (-9) v6 ∧ Below w5.heap.size w5 w6 ∧ Below w.heap.size w w6) := ⟨hl6, hb6, below_seq H5.out.2.2 hb6⟩; obtain ⟨kb, ko, kc, rfl, -⟩ := hl6; clear hb6)
    have HL : Hid ((KindsIn w6 ∧ Marks w6 ∧ InSl w6 l (.slice iad l.length ic)) ∧ LentI w6 l ⟨-1, -2, -3⟩ (.slice (some ⟨ob, oo, none⟩) l.length ocap) ∧ (LentSl w6 vs (-9) (.slice (some ⟨lb, lo, none⟩) vs.length lc) ∧ LentSl w6 is (-9) (.slice (some ⟨kb, ko, none⟩) is.length kc)) ∧ (IntSl w6 rv (.slice vad rv.length vcap) ∧ PutSl w6 rp (.slice pad rp.length pcap)) ∧ Kept2 w6 w3.heap.size (.slice vad rv.length vcap) (.slice pad rp.length pcap) (.int .i64 rt) (.int .i64 fc) (.int .i64 fk) ∧ IntSl w6 vs (.slice va vs.length vc) ∧ IntSl w6 is (.slice ia is.length nc)) := by
      have b46 := below_seq H5.out.2.1 H6.out.2.1
      have b36 := below_seq H4.out.2.1 b46
      have b06 := below_seq H3'.out.2.1 b36
      exact ⟨⟨HA.out.1.1.below H6.out.2.2, HA.out.1.2.1.below H6.out.2.2, HA.out.1.2.2.1.below H6.out.2.2⟩, H4.out.1.below b46, ⟨H5.out.1.below H6.out.2.1, H6.out.1⟩, ⟨H3.out.1.below b06, H3.out.2.1.below b06⟩, H3'.out.1.below b36, HA.out.2.2.1.1.below H6.out.2.2, HA.out.2.2.2.1.below H6.out.2.2⟩
    have H0 : Hid (Below w.heap.size w w6) := H6.out.2.2
    have HE : Hid (resF l vs is = ((fc, fk), rv, rp, rt)) := HA.out.2.1
    clear H1 H3 H3' H4 H5 H6 HA
    go_wp2_with fail
    go_loopw [33] (fun x wr => ∃ j : Nat, j ≤ 2 ∧ x = .int .i64 j ∧ Below w6.heap.size w6 wr) (fun x _ => 2 - (intOf x).toNat)
    case atStart => exact ⟨0, Nat.zero_le _, rfl, Below.refl _ _⟩
    case round =>
      obtain ⟨j, hj, rfl, hbr⟩ := hrel
      by_cases hlt : j < 2
      · have HB : Hid (Below w6.heap.size w6 wr) := hbr
        clear hbr
        go_wp2_with (go_at_call 12; refine (Run_is wr l _ _ _ _ _ _ vs is (HL.out.1.1.below HB.out) (HL.out.2.1.plain.below HB.out) (fun e => by cases e) (HL.out.2.2.1.1.plain.below HB.out) (HL.out.2.2.1.2.plain.below HB.out)).mono ?_; rintro r w7 ⟨hb7, u7, q7, rfl, hu7, hq7, hne7⟩; rw [HE.out] at hu7 hq7 ⊢; unfold ansV; dsimp only at hu7 hq7; obtain ⟨xad, xcap, rfl⟩ := owns_value hu7; obtain ⟨yad, ycap, rfl⟩ := owns_value hq7; have H7 : Hid (w7.ownsRow wr.heap.size 3 1 (.slice xad rv.length xcap) rv.length (intVs rv) ∧ w7.ownsRow wr.heap.size 43 2 (.slice yad rp.length ycap) rp.length (putVs rp) ∧ Below wr.heap.size wr w7 ∧ (∀ k, (Value.slice xad rv.length xcap).ownBlock = some k → (Value.slice yad rp.length ycap).ownBlock ≠ some k)) := ⟨hu7, hq7, hb7, hne7⟩; have hk7 := HL.out.2.2.2.2.1.below (below_seq HB.out hb7); obtain ⟨c1, f1, l1⟩ := cells_of (l := [_, _, _]) hk7.1; obtain ⟨c2, f2, l2⟩ := cells_of (l := [_, _]) hk7.2; have c10 := c1 0 _ rfl; have c11 := c1 1 _ rfl; have c12 := c1 2 _ rfl; have c20 := c2 0 _ rfl; have c21 := c2 1 _ rfl; clear c1 c2 f1 f2 hk7 hu7 hq7 hne7 hb7)
        have H8 : Hid (Kept2 ((w7.alloc (.cells #[.slice xad rv.length xcap, .slice yad rp.length ycap, .int .i64 rt] 27)).alloc (.cells #[.int .i64 fc, .int .i64 fk] 30)) w7.heap.size (.slice xad rv.length xcap) (.slice yad rp.length ycap) (.int .i64 rt) (.int .i64 fc) (.int .i64 fk) ∧ Below w7.heap.size w7 ((w7.alloc (.cells #[.slice xad rv.length xcap, .slice yad rp.length ycap, .int .i64 rt] 27)).alloc (.cells #[.int .i64 fc, .int .i64 fk] 30)) ∧ Below w6.heap.size w6 ((w7.alloc (.cells #[.slice xad rv.length xcap, .slice yad rp.length ycap, .int .i64 rt] 27)).alloc (.cells #[.int .i64 fc, .int .i64 fk] 30))) := by
          have h1 : Below w7.heap.size w7 ((w7.alloc (.cells #[.slice xad rv.length xcap, .slice yad rp.length ycap, .int .i64 rt] 27)).alloc (.cells #[.int .i64 fc, .int .i64 fk] 30)) := (below_new _ _).alloc (by simp) _
          exact ⟨Kept2.made w7 _ _ _ _ _, h1, below_seq (below_seq HB.out H7.out.2.2.1) h1⟩
        clear c10 c11 c12 c20 c21 l1 l2
        generalize (w7.alloc (.cells #[.slice xad rv.length xcap, .slice yad rp.length ycap, .int .i64 rt] 27)).alloc (.cells #[.int .i64 fc, .int .i64 fk] 30) = w8 at *
        go_wp2_with (go_at_call 13; refine (Ends_any w8 rv rp rt _ _ _ _ (by omega) (by omega) ((ints_of_own H7.out.1).below H8.out.2.1) (HL.out.2.2.2.1.1.below H8.out.2.2) ((PutSl.of_own H7.out.2.1).below H8.out.2.1) (HL.out.2.2.2.1.2.below H8.out.2.2)).mono ?_; rintro r w9 ⟨rfl, hb9⟩; have H9 : Hid (Below w8.heap.size w8 w9) := hb9; obtain ⟨g0, g1, g2⟩ := HL.out.1.2.1.below (below_seq H8.out.2.2 hb9); clear hb9)
        go_wp2_with (go_at_call 14; refine (Still_any w9 l ⟨-1, -2, -3⟩ _ _ (by omega) (HL.out.2.1.below (below_seq H8.out.2.2 H9.out)) (HL.out.1.2.2.below (below_seq H8.out.2.2 H9.out))).mono ?_; rintro r w10 ⟨rfl, hb10⟩; have H10 : Hid (Below w8.heap.size w8 w10) := below_seq H9.out hb10; clear hb10 g0 g1 g2)
        have PH : Phase 3 := trivial
        go_wp2_with (go_at_call 15; guard_hyp PH : Phase 3; clear PH; refine (StillN_any w10 vs (-9) _ _ (by omega) (HL.out.2.2.1.1.below (below_seq H8.out.2.2 H10.out)) (HL.out.2.2.2.2.2.1.below (below_seq H8.out.2.2 H10.out))).mono ?_; rintro r w11 ⟨rfl, hb11⟩; have H11 : Hid (Below w8.heap.size w8 w11) := below_seq H10.out hb11; clear hb11; have PH : Phase 4 := trivial)
        go_wp2_with (go_at_call 15; guard_hyp PH : Phase 4; clear PH; refine (StillN_any w11 is (-9) _ _ (by omega) (HL.out.2.2.1.2.below (below_seq H8.out.2.2 H11.out)) (HL.out.2.2.2.2.2.2.below (below_seq H8.out.2.2 H11.out))).mono ?_; rintro r w12 ⟨rfl, hb12⟩; have H12 : Hid (Below w8.heap.size w8 w12) := below_seq H11.out hb12; clear hb12; have hk12 := H8.out.1.below H12.out; obtain ⟨c1, f1, l1⟩ := cells_of (l := [_, _, _]) hk12.1; have c10 := c1 0 _ rfl; have c11 := c1 1 _ rfl; clear c1 f1 hk12)
        have H12' : Hid (w12.ownsRow wr.heap.size 3 1 (.slice xad rv.length xcap) rv.length (intVs rv) ∧ w12.ownsRow wr.heap.size 43 2 (.slice yad rp.length ycap) rp.length (putVs rp)) := ⟨ownsRow_below H7.out.1 (below_seq H8.out.2.1 H12.out), ownsRow_below H7.out.2.1 (below_seq H8.out.2.1 H12.out)⟩
        go_wp2_with (go_at_call 16; refine (SpoilN_own w12 wr.heap.size _ _ _ H12'.out.1).mono ?_; rintro r w13 ⟨rfl, hb13, hk13⟩; have d11 := (cell_same (hk13 w7.heap.size (fun e => by have := (H7.out.1.lt _ e).2; omega))).trans c11; have H13 : Hid (Below wr.heap.size w12 w13 ∧ w13.ownsRow wr.heap.size 43 2 (.slice yad rp.length ycap) rp.length (putVs rp)) := ⟨hb13, ownsRow_own H12'.out.2 (fun k hk => hk13 k (fun e => H7.out.2.2.2 k e hk))⟩; clear hb13 hk13 c10 c11)
        go_wp2_with (go_at_call 17; refine (SpoilP_any w13 wr.heap.size _ _ _ H13.out.2).mono ?_; rintro r w14 ⟨rfl, hb14⟩; have H14 : Hid (Below wr.heap.size w13 w14) := hb14; clear hb14)
        have HR : Hid (Below w6.heap.size w6 w14) := by
          have h1 : Below wr.heap.size wr w12 := below_seq H7.out.2.2.1 (below_seq H8.out.2.1 H12.out)
          exact below_seq HB.out ((h1.trans H13.out.1).trans H14.out)
        go_roundw
        case rel => exact ⟨j + 1, by omega, by go_num, HR.out⟩
        case measure => simp [intOf]; omega
      · have hje : j = 2 := by omega
        subst hje
        go_wp2_with fail
        go_ret
        exact ⟨rfl, below_seq H0.out hbr⟩
end Go.Proofs.YtibcbdihphbfeacDoor
