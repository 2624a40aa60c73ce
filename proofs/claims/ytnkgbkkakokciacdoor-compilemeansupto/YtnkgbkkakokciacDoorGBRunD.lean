import Derived.Test.YtnkgbkkakokciacDoorGBRunC
namespace Go.Proofs.YtnkgbkkakokciacDoor.B
open Go.ChangeShapes Go.WideShapes Go.ChangeAt Go.RowKit
set_option maxRecDepth 20000 in
set_option maxHeartbeats 4000000 in
theorem Run_many (w:World) (v iv:Value) (a:List St) (b o c:Nat) (ia:Option Addr) (ic:Nat) (vs is:List Int) (s3:Ms) (z:Nat) (hiv:iv = .slice ia 4 ic) (hl:vs.length=8) (hv:∀ j,j<8→w.cell? ⟨b,o+j,none⟩=some (.int .i64 (vs.getD j 0))) (hi:InsIs w iv is) (hsl:St.Sl w a v) (hb:St.bulkAll a≤1048576) (hok:St.OkAll a)
  (hC:∀ W,Below w.heap.size w W→Calls Tryd.prog 59 #[v] W fun r w'=>r = .returned (.agg #[.int .i64 0,.int .i64 0])∧Below W.heap.size W w') (hz:St.runAll is a 0 ⟨vs,[],0⟩=(s3,some z)) :
  Calls Tryd.prog 39 #[v,.slice (some ⟨b,o,none⟩) 8 c,iv] w (RunEnd w (s3,some z)):=by
 have HC:Hid (∀ W,Below w.heap.size w W→Calls Tryd.prog 59 #[v] W fun r w'=>r = .returned (.agg #[.int .i64 0,.int .i64 0])∧Below W.heap.size W w'):=hC
 have HI:Hid (InsIs w iv is∧St.Sl w a v∧St.OkAll a∧(∀ j,j<8→w.cell? ⟨b,o+j,none⟩=some (.int .i64 (vs.getD j 0)))∧vs.length=8):=⟨hi,hsl,hok,hv,hl⟩
 have HZ:Hid (St.runAll is a 0 ⟨vs,[],0⟩=(s3,some z)):=hz
 clear hC hi hsl hok hv hl hz
 subst hiv
 go_enter Tryd.func39,Tryd.ntmps39
 go_wp2_with (go_at_call 59;refine (HC.out _ (((Below.refl _ w).alloc (Nat.le_refl _) _).alloc (by simp) _)).mono ?_;rintro r w3 ⟨rfl,hb3⟩;have HB:Hid (Kept2 w3 w.heap.size (.slice none 0 0) (.slice none 0 0) (.int .i64 0) (.int .i64 0) (.int .i64 0)∧Below w.heap.size w w3):=⟨(Kept2.made w _ _ _ _ _).below hb3,below_seq (((Below.refl _ w).alloc (Nat.le_refl _) _).alloc (by simp) _) hb3⟩;clear hb3)
 have HB':Hid (Kept2 (w3.alloc (.cells #[.int .i64 0,.int .i64 0] 30)) w.heap.size (.slice none 0 0) (.slice none 0 0) (.int .i64 0) (.int .i64 0) (.int .i64 0)∧Below w.heap.size w (w3.alloc (.cells #[.int .i64 0,.int .i64 0] 30))):=⟨HB.out.1.alloc _,HB.out.2.alloc HB.out.2.size _⟩
 have hs1:w.heap.size+1<w3.heap.size:=(Array.getElem?_eq_some_iff.1 HB.out.1.2).1
 clear HB
 go_wp2_with (go_at_call 72;refine (clone_any _ b o c vs HI.out.2.2.2.2 (fun j hj=>below_cell HB'.out.2 (HI.out.2.2.2.1 j hj))).mono ?_;rintro r w4 ⟨vb,vc,rfl,⟨hvb,hle⟩,hb4⟩;have H4:Hid (VarBlk w4 vb vc vs∧(w3.alloc (.cells #[.int .i64 0,.int .i64 0] 30)).heap.size≤vb∧Below (w3.alloc (.cells #[.int .i64 0,.int .i64 0] 30)).heap.size (w3.alloc (.cells #[.int .i64 0,.int .i64 0] 30)) w4):=⟨hvb,hle,hb4⟩;clear hvb hle hb4)
 have hs2:w.heap.size≤w4.heap.size:=Nat.le_trans HB'.out.2.size H4.out.2.2.size
 go_wp2_with (go_at_call 73;refine (number_any w w4.heap.size (St.bulkAll a+1) (by omega) a w4 (.slice none 0 0) v [] [] (Nat.lt_succ_self _) (by simp;omega) (HB'.out.2.trans (H4.out.2.2.mono HB'.out.2.size)) hs2 (Nat.le_refl _) HI.out.2.1 ⟨rfl,.inl ⟨rfl,rfl⟩⟩ rfl).mono ?_;rintro r w5 ⟨nv,xs,rfl,ho5,hc5,hg5⟩;obtain ⟨nad,ncap,rfl⟩:=owns_value ho5;have H5:Hid (w5.ownsRow w4.heap.size 177 16 (.slice nad (St.numAll a 0).length ncap) (St.numAll a 0).length xs∧Nd.Cells w (St.numAll a 0) xs∧Below w4.heap.size w4 w5):=⟨ho5,hc5,below_gr hg5⟩;clear ho5 hc5 hg5)
 have HW:Hid (Calls Tryd.prog 74 #[.pointer (some ⟨w5.heap.size,0,none⟩)] (w5.alloc (.cells #[.slice (some ⟨vb,0,none⟩) 8 vc,.slice none 0 0,.int .i64 0,.slice ia 4 ic,.slice nad (St.numAll a 0).length ncap] 139)) (WholePost w5.heap.size vb (w5.heap.size+1) vc (.slice ia 4 ic) (.slice nad (St.numAll a 0).length ncap) (w5.alloc (.cells #[.slice (some ⟨vb,0,none⟩) 8 vc,.slice none 0 0,.int .i64 0,.slice ia 4 ic,.slice nad (St.numAll a 0).length ncap] 139)) (.slice none 0 0) (St.runAll is a 0 ⟨vs,[],0⟩))):=run_mid w _ w4 w5 _ a vs is vb vc ncap nad xs HI.out.1 hb HI.out.2.2.1 HB'.out.2 H4.out.2.2 H4.out.1 H4.out.2.1 H5.out.1 H5.out.2.1 H5.out.2.2
 have HB5:Hid (Kept2 (w5.alloc (.cells #[.slice (some ⟨vb,0,none⟩) 8 vc,.slice none 0 0,.int .i64 0,.slice ia 4 ic,.slice nad (St.numAll a 0).length ncap] 139)) w.heap.size (.slice none 0 0) (.slice none 0 0) (.int .i64 0) (.int .i64 0) (.int .i64 0)∧Below w.heap.size w (w5.alloc (.cells #[.slice (some ⟨vb,0,none⟩) 8 vc,.slice none 0 0,.int .i64 0,.slice ia 4 ic,.slice nad (St.numAll a 0).length ncap] 139))):=⟨((HB'.out.1.below H4.out.2.2).below H5.out.2.2).alloc _,((HB'.out.2.trans (H4.out.2.2.mono HB'.out.2.size)).trans (H5.out.2.2.mono hs2)).alloc (Nat.le_trans hs2 H5.out.2.2.size) _⟩
 have hs5:w.heap.size+1<vb:=by have:=H4.out.2.1;simp at this;omega
 have hs6:w.heap.size+1<w5.heap.size:=by have h1:=H5.out.2.2.size;have h2:=H4.out.2.2.size;simp at h2;omega
 clear HB' H4 H5 hs1 hs2
 go_wp2_with (go_at_call 74;refine HW.out.mono ?_;intro r w6 hpost;unfold WholePost at hpost;rw [HZ.out] at hpost;obtain ⟨rfl,pv6,hr6⟩:=hpost;have HB6:Hid (Kept2 w6 w.heap.size (.slice none 0 0) (.slice none 0 0) (.int .i64 0) (.int .i64 0) (.int .i64 0)∧Below w.heap.size w w6):=⟨HB5.out.1.rr hr6 hs6 hs5 rfl,hr6.under HB5.out.2 HB5.out.2.size (by omega) (by omega) (by simp [Value.ownBlock])⟩;obtain ⟨c1,f1,l1⟩:=cells_of (l:=[_,_,_]) HB6.out.1.1;obtain ⟨c2,f2,l2⟩:=cells_of (l:=[_,_]) HB6.out.1.2;have c10:=c1 0 _ rfl;have c11:=c1 1 _ rfl;have c12:=c1 2 _ rfl;have c20:=c2 0 _ rfl;have c21:=c2 1 _ rfl;clear c1 c2;clear hr6)
 go_region
 go_wp2
 exact bodyPost_ret (v:=.tuple #[.agg #[.slice none 0 0,.slice none 0 0,.int .i64 0],.agg #[.int .i64 11,.int .i64 z]]) (Run_ends ((HB6.out.1.put _ _ _ _ _).alloc _).drew rfl rfl) rfl ⟨rfl,((((((HB6.out.2.setCell (Nat.le_refl _) _).setCell (Nat.le_refl _) _).setCell (Nat.le_refl _) _).setCell (Nat.le_succ _) _).setCell (Nat.le_succ _) _).alloc (by simp;omega) _).drew⟩
end Go.Proofs.YtnkgbkkakokciacDoor.B
