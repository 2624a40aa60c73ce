import Derived.Test.YtnkgbkkakokciacDoorGBRunA
namespace Go.Proofs.YtnkgbkkakokciacDoor.B
open Go.ChangeShapes Go.WideShapes Go.ChangeAt Go.RowKit
set_option maxRecDepth 20000 in
set_option maxHeartbeats 4000000 in
theorem Run_range (w:World) (v:Value) (va ia:Option Addr) (vn vc im ic:Nat) (hn:vn≠8∨im≠4) (hC:∀ W,Below w.heap.size w W→Calls Tryd.prog 59 #[v] W fun r w'=>r = .returned (.agg #[.int .i64 0,.int .i64 0])∧Below W.heap.size W w') :
  Calls Tryd.prog 39 #[v,.slice va vn vc,.slice ia im ic] w fun r w'=>r = .returned (.tuple #[.agg #[.slice none 0 0,.slice none 0 0,.int .i64 0],.agg #[.int .i64 3,.int .i64 0]])∧Below w.heap.size w w':=by
 have HC:Hid (∀ W,Below w.heap.size w W→Calls Tryd.prog 59 #[v] W fun r w'=>r = .returned (.agg #[.int .i64 0,.int .i64 0])∧Below W.heap.size W w'):=hC
 clear hC
 go_enter Tryd.func39,Tryd.ntmps39
 go_wp2_with (go_at_call 59;refine (HC.out _ (((Below.refl _ w).alloc (Nat.le_refl _) _).alloc (by simp) _)).mono ?_;rintro r w3 ⟨rfl,hb3⟩;have HB:Hid (Kept2 w3 w.heap.size (.slice none 0 0) (.slice none 0 0) (.int .i64 0) (.int .i64 0) (.int .i64 0)∧Below w.heap.size w w3):=⟨(Kept2.made w _ _ _ _ _).below hb3,below_seq (((Below.refl _ w).alloc (Nat.le_refl _) _).alloc (by simp) _) hb3⟩;clear hb3;obtain ⟨c1,f1,l1⟩:=cells_of (l:=[_,_,_]) HB.out.1.1;obtain ⟨c2,f2,l2⟩:=cells_of (l:=[_,_]) HB.out.1.2;have c10:=c1 0 _ rfl;have c11:=c1 1 _ rfl;have c12:=c1 2 _ rfl;have c20:=c2 0 _ rfl;have c21:=c2 1 _ rfl;clear c1 c2)
 all_goals exact bodyPost_ret (v:=.tuple #[.agg #[.slice none 0 0,.slice none 0 0,.int .i64 0],.agg #[.int .i64 3,.int .i64 0]]) (Run_ends ((HB.out.1.put _ _ _ _ _).alloc _) rfl rfl) rfl ⟨rfl,((((((HB.out.2.setCell (Nat.le_refl _) _).setCell (Nat.le_refl _) _).setCell (Nat.le_refl _) _).setCell (Nat.le_succ _) _).setCell (Nat.le_succ _) _).alloc (by simp;omega) _)⟩
end Go.Proofs.YtnkgbkkakokciacDoor.B
