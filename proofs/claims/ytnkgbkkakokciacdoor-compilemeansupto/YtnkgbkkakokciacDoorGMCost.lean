import Derived.Test.YtnkgbkkakokciacDoorGDB
namespace Go.Proofs.YtnkgbkkakokciacDoor
open Go.ChangeShapes Go.WideShapes Go.ChangeAt Go.RowKit
def TickIn (w:World):Prop:=∀ m:Nat,1≤m→m≤18→w.cell? ⟨1,m*6+5,none⟩=some (.int .i64 (tickOf m))
theorem KindsIn.tick {w:World} (h:KindsIn w):TickIn w:=fun m h1 h2=>(h m h1 h2).2.2.2.2.2
set_option maxRecDepth 20000 in
set_option maxHeartbeats 4000000 in
theorem Cost_1 (w:World) (hk:TickIn w) (a b:Int) (ov:Bool):Calls Tryd.prog 28 #[.agg #[.int .i64 1,.int .i64 a,.int .i64 b],.bool ov] w fun r w'=>r = .returned (.int .i64 1)∧Below w.heap.size w w':=by
 have H0:Hid (TickIn w):=hk
 clear hk
 go_enter Tryd.func28,Tryd.ntmps28
 go_wp2_with (go_at_call 58;refine (isIns_yes _ 1 a b (by decide) (by decide)).mono ?_;rintro r w1 ⟨rfl,hb1⟩;have H1:Hid (Below w.heap.size w w1):=below_seq (below_new _ _) hb1;have c0:w1.cell? ⟨w.heap.size,0,none⟩=some (.int .i64 1):=below_cell hb1 (by go_simp);have c1:w1.cell? ⟨w.heap.size,1,none⟩=some (.int .i64 a):=below_cell hb1 (by go_simp);have c2:w1.cell? ⟨w.heap.size,2,none⟩=some (.int .i64 b):=below_cell hb1 (by go_simp);have k:w1.cell? ⟨1,11,none⟩=some (.int .i64 1):=below_cell H1.out (H0.out 1 (by decide) (by decide));clear hb1)
 go_ret
 exact ⟨rfl,H1.out⟩
set_option maxRecDepth 20000 in
set_option maxHeartbeats 4000000 in
theorem Cost_2 (w:World) (hk:TickIn w) (a b:Int) (ov:Bool):Calls Tryd.prog 28 #[.agg #[.int .i64 2,.int .i64 a,.int .i64 b],.bool ov] w fun r w'=>r = .returned (.int .i64 1)∧Below w.heap.size w w':=by
 have H0:Hid (TickIn w):=hk
 clear hk
 go_enter Tryd.func28,Tryd.ntmps28
 go_wp2_with (go_at_call 58;refine (isIns_yes _ 2 a b (by decide) (by decide)).mono ?_;rintro r w1 ⟨rfl,hb1⟩;have H1:Hid (Below w.heap.size w w1):=below_seq (below_new _ _) hb1;have c0:w1.cell? ⟨w.heap.size,0,none⟩=some (.int .i64 2):=below_cell hb1 (by go_simp);have c1:w1.cell? ⟨w.heap.size,1,none⟩=some (.int .i64 a):=below_cell hb1 (by go_simp);have c2:w1.cell? ⟨w.heap.size,2,none⟩=some (.int .i64 b):=below_cell hb1 (by go_simp);have k:w1.cell? ⟨1,17,none⟩=some (.int .i64 1):=below_cell H1.out (H0.out 2 (by decide) (by decide));clear hb1)
 go_ret
 exact ⟨rfl,H1.out⟩
set_option maxRecDepth 20000 in
set_option maxHeartbeats 4000000 in
theorem Cost_3 (w:World) (hk:TickIn w) (a b:Int) (ov:Bool):Calls Tryd.prog 28 #[.agg #[.int .i64 3,.int .i64 a,.int .i64 b],.bool ov] w fun r w'=>r = .returned (.int .i64 1)∧Below w.heap.size w w':=by
 have H0:Hid (TickIn w):=hk
 clear hk
 go_enter Tryd.func28,Tryd.ntmps28
 go_wp2_with (go_at_call 58;refine (isIns_yes _ 3 a b (by decide) (by decide)).mono ?_;rintro r w1 ⟨rfl,hb1⟩;have H1:Hid (Below w.heap.size w w1):=below_seq (below_new _ _) hb1;have c0:w1.cell? ⟨w.heap.size,0,none⟩=some (.int .i64 3):=below_cell hb1 (by go_simp);have c1:w1.cell? ⟨w.heap.size,1,none⟩=some (.int .i64 a):=below_cell hb1 (by go_simp);have c2:w1.cell? ⟨w.heap.size,2,none⟩=some (.int .i64 b):=below_cell hb1 (by go_simp);have k:w1.cell? ⟨1,23,none⟩=some (.int .i64 1):=below_cell H1.out (H0.out 3 (by decide) (by decide));clear hb1)
 go_ret
 exact ⟨rfl,H1.out⟩
set_option maxRecDepth 20000 in
set_option maxHeartbeats 4000000 in
theorem Cost_4 (w:World) (hk:TickIn w) (a b:Int) (ov:Bool):Calls Tryd.prog 28 #[.agg #[.int .i64 4,.int .i64 a,.int .i64 b],.bool ov] w fun r w'=>r = .returned (.int .i64 1)∧Below w.heap.size w w':=by
 have H0:Hid (TickIn w):=hk
 clear hk
 go_enter Tryd.func28,Tryd.ntmps28
 go_wp2_with (go_at_call 58;refine (isIns_yes _ 4 a b (by decide) (by decide)).mono ?_;rintro r w1 ⟨rfl,hb1⟩;have H1:Hid (Below w.heap.size w w1):=below_seq (below_new _ _) hb1;have c0:w1.cell? ⟨w.heap.size,0,none⟩=some (.int .i64 4):=below_cell hb1 (by go_simp);have c1:w1.cell? ⟨w.heap.size,1,none⟩=some (.int .i64 a):=below_cell hb1 (by go_simp);have c2:w1.cell? ⟨w.heap.size,2,none⟩=some (.int .i64 b):=below_cell hb1 (by go_simp);have k:w1.cell? ⟨1,29,none⟩=some (.int .i64 1):=below_cell H1.out (H0.out 4 (by decide) (by decide));clear hb1)
 go_ret
 exact ⟨rfl,H1.out⟩
set_option maxRecDepth 20000 in
set_option maxHeartbeats 4000000 in
theorem Cost_5 (w:World) (hk:TickIn w) (a b:Int) (ov:Bool):Calls Tryd.prog 28 #[.agg #[.int .i64 5,.int .i64 a,.int .i64 b],.bool ov] w fun r w'=>r = .returned (.int .i64 1)∧Below w.heap.size w w':=by
 have H0:Hid (TickIn w):=hk
 clear hk
 go_enter Tryd.func28,Tryd.ntmps28
 go_wp2_with (go_at_call 58;refine (isIns_yes _ 5 a b (by decide) (by decide)).mono ?_;rintro r w1 ⟨rfl,hb1⟩;have H1:Hid (Below w.heap.size w w1):=below_seq (below_new _ _) hb1;have c0:w1.cell? ⟨w.heap.size,0,none⟩=some (.int .i64 5):=below_cell hb1 (by go_simp);have c1:w1.cell? ⟨w.heap.size,1,none⟩=some (.int .i64 a):=below_cell hb1 (by go_simp);have c2:w1.cell? ⟨w.heap.size,2,none⟩=some (.int .i64 b):=below_cell hb1 (by go_simp);have k:w1.cell? ⟨1,35,none⟩=some (.int .i64 1):=below_cell H1.out (H0.out 5 (by decide) (by decide));clear hb1)
 go_ret
 exact ⟨rfl,H1.out⟩
set_option maxRecDepth 20000 in
set_option maxHeartbeats 4000000 in
theorem Cost_6 (w:World) (hk:TickIn w) (a b:Int) (ov:Bool):Calls Tryd.prog 28 #[.agg #[.int .i64 6,.int .i64 a,.int .i64 b],.bool ov] w fun r w'=>r = .returned (.int .i64 3)∧Below w.heap.size w w':=by
 have H0:Hid (TickIn w):=hk
 clear hk
 go_enter Tryd.func28,Tryd.ntmps28
 go_wp2_with (go_at_call 58;refine (isIns_yes _ 6 a b (by decide) (by decide)).mono ?_;rintro r w1 ⟨rfl,hb1⟩;have H1:Hid (Below w.heap.size w w1):=below_seq (below_new _ _) hb1;have c0:w1.cell? ⟨w.heap.size,0,none⟩=some (.int .i64 6):=below_cell hb1 (by go_simp);have c1:w1.cell? ⟨w.heap.size,1,none⟩=some (.int .i64 a):=below_cell hb1 (by go_simp);have c2:w1.cell? ⟨w.heap.size,2,none⟩=some (.int .i64 b):=below_cell hb1 (by go_simp);have k:w1.cell? ⟨1,41,none⟩=some (.int .i64 3):=below_cell H1.out (H0.out 6 (by decide) (by decide));clear hb1)
 go_ret
 exact ⟨rfl,H1.out⟩
set_option maxRecDepth 20000 in
set_option maxHeartbeats 4000000 in
theorem Cost_7 (w:World) (hk:TickIn w) (a b:Int) (ov:Bool):Calls Tryd.prog 28 #[.agg #[.int .i64 7,.int .i64 a,.int .i64 b],.bool ov] w fun r w'=>r = .returned (.int .i64 1)∧Below w.heap.size w w':=by
 have H0:Hid (TickIn w):=hk
 clear hk
 go_enter Tryd.func28,Tryd.ntmps28
 go_wp2_with (go_at_call 58;refine (isIns_yes _ 7 a b (by decide) (by decide)).mono ?_;rintro r w1 ⟨rfl,hb1⟩;have H1:Hid (Below w.heap.size w w1):=below_seq (below_new _ _) hb1;have c0:w1.cell? ⟨w.heap.size,0,none⟩=some (.int .i64 7):=below_cell hb1 (by go_simp);have c1:w1.cell? ⟨w.heap.size,1,none⟩=some (.int .i64 a):=below_cell hb1 (by go_simp);have c2:w1.cell? ⟨w.heap.size,2,none⟩=some (.int .i64 b):=below_cell hb1 (by go_simp);have k:w1.cell? ⟨1,47,none⟩=some (.int .i64 1):=below_cell H1.out (H0.out 7 (by decide) (by decide));clear hb1)
 go_ret
 exact ⟨rfl,H1.out⟩
set_option maxRecDepth 20000 in
set_option maxHeartbeats 4000000 in
theorem Cost_8 (w:World) (hk:TickIn w) (a b:Int) (ov:Bool):Calls Tryd.prog 28 #[.agg #[.int .i64 8,.int .i64 a,.int .i64 b],.bool ov] w fun r w'=>r = .returned (.int .i64 1)∧Below w.heap.size w w':=by
 have H0:Hid (TickIn w):=hk
 clear hk
 go_enter Tryd.func28,Tryd.ntmps28
 go_wp2_with (go_at_call 58;refine (isIns_yes _ 8 a b (by decide) (by decide)).mono ?_;rintro r w1 ⟨rfl,hb1⟩;have H1:Hid (Below w.heap.size w w1):=below_seq (below_new _ _) hb1;have c0:w1.cell? ⟨w.heap.size,0,none⟩=some (.int .i64 8):=below_cell hb1 (by go_simp);have c1:w1.cell? ⟨w.heap.size,1,none⟩=some (.int .i64 a):=below_cell hb1 (by go_simp);have c2:w1.cell? ⟨w.heap.size,2,none⟩=some (.int .i64 b):=below_cell hb1 (by go_simp);have k:w1.cell? ⟨1,53,none⟩=some (.int .i64 1):=below_cell H1.out (H0.out 8 (by decide) (by decide));clear hb1)
 go_ret
 exact ⟨rfl,H1.out⟩
set_option maxRecDepth 20000 in
set_option maxHeartbeats 4000000 in
theorem Cost_9 (w:World) (hk:TickIn w) (a b:Int) (ov:Bool):Calls Tryd.prog 28 #[.agg #[.int .i64 9,.int .i64 a,.int .i64 b],.bool ov] w fun r w'=>r = .returned (.int .i64 2)∧Below w.heap.size w w':=by
 have H0:Hid (TickIn w):=hk
 clear hk
 go_enter Tryd.func28,Tryd.ntmps28
 go_wp2_with (go_at_call 58;refine (isIns_yes _ 9 a b (by decide) (by decide)).mono ?_;rintro r w1 ⟨rfl,hb1⟩;have H1:Hid (Below w.heap.size w w1):=below_seq (below_new _ _) hb1;have c0:w1.cell? ⟨w.heap.size,0,none⟩=some (.int .i64 9):=below_cell hb1 (by go_simp);have c1:w1.cell? ⟨w.heap.size,1,none⟩=some (.int .i64 a):=below_cell hb1 (by go_simp);have c2:w1.cell? ⟨w.heap.size,2,none⟩=some (.int .i64 b):=below_cell hb1 (by go_simp);have k:w1.cell? ⟨1,59,none⟩=some (.int .i64 2):=below_cell H1.out (H0.out 9 (by decide) (by decide));clear hb1)
 go_ret
 exact ⟨rfl,H1.out⟩
set_option maxRecDepth 20000 in
set_option maxHeartbeats 4000000 in
theorem Cost_10 (w:World) (hk:TickIn w) (a b:Int) (ov:Bool):Calls Tryd.prog 28 #[.agg #[.int .i64 10,.int .i64 a,.int .i64 b],.bool ov] w fun r w'=>r = .returned (.int .i64 2)∧Below w.heap.size w w':=by
 have H0:Hid (TickIn w):=hk
 clear hk
 go_enter Tryd.func28,Tryd.ntmps28
 go_wp2_with (go_at_call 58;refine (isIns_yes _ 10 a b (by decide) (by decide)).mono ?_;rintro r w1 ⟨rfl,hb1⟩;have H1:Hid (Below w.heap.size w w1):=below_seq (below_new _ _) hb1;have c0:w1.cell? ⟨w.heap.size,0,none⟩=some (.int .i64 10):=below_cell hb1 (by go_simp);have c1:w1.cell? ⟨w.heap.size,1,none⟩=some (.int .i64 a):=below_cell hb1 (by go_simp);have c2:w1.cell? ⟨w.heap.size,2,none⟩=some (.int .i64 b):=below_cell hb1 (by go_simp);have k:w1.cell? ⟨1,65,none⟩=some (.int .i64 2):=below_cell H1.out (H0.out 10 (by decide) (by decide));clear hb1)
 go_ret
 exact ⟨rfl,H1.out⟩
set_option maxRecDepth 20000 in
set_option maxHeartbeats 4000000 in
theorem Cost_11 (w:World) (hk:TickIn w) (a b:Int) (ov:Bool):Calls Tryd.prog 28 #[.agg #[.int .i64 11,.int .i64 a,.int .i64 b],.bool ov] w fun r w'=>r = .returned (.int .i64 2)∧Below w.heap.size w w':=by
 have H0:Hid (TickIn w):=hk
 clear hk
 go_enter Tryd.func28,Tryd.ntmps28
 go_wp2_with (go_at_call 58;refine (isIns_yes _ 11 a b (by decide) (by decide)).mono ?_;rintro r w1 ⟨rfl,hb1⟩;have H1:Hid (Below w.heap.size w w1):=below_seq (below_new _ _) hb1;have c0:w1.cell? ⟨w.heap.size,0,none⟩=some (.int .i64 11):=below_cell hb1 (by go_simp);have c1:w1.cell? ⟨w.heap.size,1,none⟩=some (.int .i64 a):=below_cell hb1 (by go_simp);have c2:w1.cell? ⟨w.heap.size,2,none⟩=some (.int .i64 b):=below_cell hb1 (by go_simp);have k:w1.cell? ⟨1,71,none⟩=some (.int .i64 2):=below_cell H1.out (H0.out 11 (by decide) (by decide));clear hb1)
 go_ret
 exact ⟨rfl,H1.out⟩
set_option maxRecDepth 20000 in
set_option maxHeartbeats 4000000 in
theorem Cost_12 (w:World) (hk:TickIn w) (a b:Int) (ov:Bool):Calls Tryd.prog 28 #[.agg #[.int .i64 12,.int .i64 a,.int .i64 b],.bool ov] w fun r w'=>r = .returned (.int .i64 (if ov then 2 else 1))∧Below w.heap.size w w':=by
 have H0:Hid (TickIn w):=hk
 clear hk
 cases ov with
 | false =>
  go_enter Tryd.func28,Tryd.ntmps28
  go_wp2_with (go_at_call 58;refine (isIns_yes _ 12 a b (by decide) (by decide)).mono ?_;rintro r w1 ⟨rfl,hb1⟩;have H1:Hid (Below w.heap.size w w1):=below_seq (below_new _ _) hb1;have c0:w1.cell? ⟨w.heap.size,0,none⟩=some (.int .i64 12):=below_cell hb1 (by go_simp);have c1:w1.cell? ⟨w.heap.size,1,none⟩=some (.int .i64 a):=below_cell hb1 (by go_simp);have c2:w1.cell? ⟨w.heap.size,2,none⟩=some (.int .i64 b):=below_cell hb1 (by go_simp);have k:w1.cell? ⟨1,77,none⟩=some (.int .i64 1):=below_cell H1.out (H0.out 12 (by decide) (by decide));clear hb1)
  go_ret
  exact ⟨rfl,H1.out⟩
 | true =>
  go_enter Tryd.func28,Tryd.ntmps28
  go_wp2_with (go_at_call 58;refine (isIns_yes _ 12 a b (by decide) (by decide)).mono ?_;rintro r w1 ⟨rfl,hb1⟩;have H1:Hid (Below w.heap.size w w1):=below_seq (below_new _ _) hb1;have c0:w1.cell? ⟨w.heap.size,0,none⟩=some (.int .i64 12):=below_cell hb1 (by go_simp);have c1:w1.cell? ⟨w.heap.size,1,none⟩=some (.int .i64 a):=below_cell hb1 (by go_simp);have c2:w1.cell? ⟨w.heap.size,2,none⟩=some (.int .i64 b):=below_cell hb1 (by go_simp);have k:w1.cell? ⟨1,77,none⟩=some (.int .i64 1):=below_cell H1.out (H0.out 12 (by decide) (by decide));clear hb1)
  go_ret
  exact ⟨rfl,H1.out⟩
set_option maxRecDepth 20000 in
set_option maxHeartbeats 4000000 in
theorem Cost_13 (w:World) (hk:TickIn w) (a b:Int) (ov:Bool):Calls Tryd.prog 28 #[.agg #[.int .i64 13,.int .i64 a,.int .i64 b],.bool ov] w fun r w'=>r = .returned (.int .i64 1)∧Below w.heap.size w w':=by
 have H0:Hid (TickIn w):=hk
 clear hk
 go_enter Tryd.func28,Tryd.ntmps28
 go_wp2_with (go_at_call 58;refine (isIns_yes _ 13 a b (by decide) (by decide)).mono ?_;rintro r w1 ⟨rfl,hb1⟩;have H1:Hid (Below w.heap.size w w1):=below_seq (below_new _ _) hb1;have c0:w1.cell? ⟨w.heap.size,0,none⟩=some (.int .i64 13):=below_cell hb1 (by go_simp);have c1:w1.cell? ⟨w.heap.size,1,none⟩=some (.int .i64 a):=below_cell hb1 (by go_simp);have c2:w1.cell? ⟨w.heap.size,2,none⟩=some (.int .i64 b):=below_cell hb1 (by go_simp);have k:w1.cell? ⟨1,83,none⟩=some (.int .i64 1):=below_cell H1.out (H0.out 13 (by decide) (by decide));clear hb1)
 go_ret
 exact ⟨rfl,H1.out⟩
set_option maxRecDepth 20000 in
set_option maxHeartbeats 4000000 in
theorem Cost_14 (w:World) (hk:TickIn w) (a b:Int) (ov:Bool):Calls Tryd.prog 28 #[.agg #[.int .i64 14,.int .i64 a,.int .i64 b],.bool ov] w fun r w'=>r = .returned (.int .i64 (if ov then 2 else 1))∧Below w.heap.size w w':=by
 have H0:Hid (TickIn w):=hk
 clear hk
 cases ov with
 | false =>
  go_enter Tryd.func28,Tryd.ntmps28
  go_wp2_with (go_at_call 58;refine (isIns_yes _ 14 a b (by decide) (by decide)).mono ?_;rintro r w1 ⟨rfl,hb1⟩;have H1:Hid (Below w.heap.size w w1):=below_seq (below_new _ _) hb1;have c0:w1.cell? ⟨w.heap.size,0,none⟩=some (.int .i64 14):=below_cell hb1 (by go_simp);have c1:w1.cell? ⟨w.heap.size,1,none⟩=some (.int .i64 a):=below_cell hb1 (by go_simp);have c2:w1.cell? ⟨w.heap.size,2,none⟩=some (.int .i64 b):=below_cell hb1 (by go_simp);have k:w1.cell? ⟨1,89,none⟩=some (.int .i64 1):=below_cell H1.out (H0.out 14 (by decide) (by decide));clear hb1)
  go_ret
  exact ⟨rfl,H1.out⟩
 | true =>
  go_enter Tryd.func28,Tryd.ntmps28
  go_wp2_with (go_at_call 58;refine (isIns_yes _ 14 a b (by decide) (by decide)).mono ?_;rintro r w1 ⟨rfl,hb1⟩;have H1:Hid (Below w.heap.size w w1):=below_seq (below_new _ _) hb1;have c0:w1.cell? ⟨w.heap.size,0,none⟩=some (.int .i64 14):=below_cell hb1 (by go_simp);have c1:w1.cell? ⟨w.heap.size,1,none⟩=some (.int .i64 a):=below_cell hb1 (by go_simp);have c2:w1.cell? ⟨w.heap.size,2,none⟩=some (.int .i64 b):=below_cell hb1 (by go_simp);have k:w1.cell? ⟨1,89,none⟩=some (.int .i64 1):=below_cell H1.out (H0.out 14 (by decide) (by decide));clear hb1)
  go_ret
  exact ⟨rfl,H1.out⟩
set_option maxRecDepth 20000 in
set_option maxHeartbeats 4000000 in
theorem Cost_15 (w:World) (hk:TickIn w) (a b:Int) (ov:Bool):Calls Tryd.prog 28 #[.agg #[.int .i64 15,.int .i64 a,.int .i64 b],.bool ov] w fun r w'=>r = .returned (.int .i64 1)∧Below w.heap.size w w':=by
 have H0:Hid (TickIn w):=hk
 clear hk
 go_enter Tryd.func28,Tryd.ntmps28
 go_wp2_with (go_at_call 58;refine (isIns_yes _ 15 a b (by decide) (by decide)).mono ?_;rintro r w1 ⟨rfl,hb1⟩;have H1:Hid (Below w.heap.size w w1):=below_seq (below_new _ _) hb1;have c0:w1.cell? ⟨w.heap.size,0,none⟩=some (.int .i64 15):=below_cell hb1 (by go_simp);have c1:w1.cell? ⟨w.heap.size,1,none⟩=some (.int .i64 a):=below_cell hb1 (by go_simp);have c2:w1.cell? ⟨w.heap.size,2,none⟩=some (.int .i64 b):=below_cell hb1 (by go_simp);have k:w1.cell? ⟨1,95,none⟩=some (.int .i64 1):=below_cell H1.out (H0.out 15 (by decide) (by decide));clear hb1)
 go_ret
 exact ⟨rfl,H1.out⟩
set_option maxRecDepth 20000 in
set_option maxHeartbeats 4000000 in
theorem Cost_16 (w:World) (hk:TickIn w) (a b:Int) (ov:Bool):Calls Tryd.prog 28 #[.agg #[.int .i64 16,.int .i64 a,.int .i64 b],.bool ov] w fun r w'=>r = .returned (.int .i64 1)∧Below w.heap.size w w':=by
 have H0:Hid (TickIn w):=hk
 clear hk
 go_enter Tryd.func28,Tryd.ntmps28
 go_wp2_with (go_at_call 58;refine (isIns_yes _ 16 a b (by decide) (by decide)).mono ?_;rintro r w1 ⟨rfl,hb1⟩;have H1:Hid (Below w.heap.size w w1):=below_seq (below_new _ _) hb1;have c0:w1.cell? ⟨w.heap.size,0,none⟩=some (.int .i64 16):=below_cell hb1 (by go_simp);have c1:w1.cell? ⟨w.heap.size,1,none⟩=some (.int .i64 a):=below_cell hb1 (by go_simp);have c2:w1.cell? ⟨w.heap.size,2,none⟩=some (.int .i64 b):=below_cell hb1 (by go_simp);have k:w1.cell? ⟨1,101,none⟩=some (.int .i64 1):=below_cell H1.out (H0.out 16 (by decide) (by decide));clear hb1)
 go_ret
 exact ⟨rfl,H1.out⟩
set_option maxRecDepth 20000 in
set_option maxHeartbeats 4000000 in
theorem Cost_17 (w:World) (hk:TickIn w) (a b:Int) (ov:Bool):Calls Tryd.prog 28 #[.agg #[.int .i64 17,.int .i64 a,.int .i64 b],.bool ov] w fun r w'=>r = .returned (.int .i64 1)∧Below w.heap.size w w':=by
 have H0:Hid (TickIn w):=hk
 clear hk
 go_enter Tryd.func28,Tryd.ntmps28
 go_wp2_with (go_at_call 58;refine (isIns_yes _ 17 a b (by decide) (by decide)).mono ?_;rintro r w1 ⟨rfl,hb1⟩;have H1:Hid (Below w.heap.size w w1):=below_seq (below_new _ _) hb1;have c0:w1.cell? ⟨w.heap.size,0,none⟩=some (.int .i64 17):=below_cell hb1 (by go_simp);have c1:w1.cell? ⟨w.heap.size,1,none⟩=some (.int .i64 a):=below_cell hb1 (by go_simp);have c2:w1.cell? ⟨w.heap.size,2,none⟩=some (.int .i64 b):=below_cell hb1 (by go_simp);have k:w1.cell? ⟨1,107,none⟩=some (.int .i64 1):=below_cell H1.out (H0.out 17 (by decide) (by decide));clear hb1)
 go_ret
 exact ⟨rfl,H1.out⟩
set_option maxRecDepth 20000 in
set_option maxHeartbeats 4000000 in
theorem Cost_18 (w:World) (hk:TickIn w) (a b:Int) (ov:Bool):Calls Tryd.prog 28 #[.agg #[.int .i64 18,.int .i64 a,.int .i64 b],.bool ov] w fun r w'=>r = .returned (.int .i64 a)∧Below w.heap.size w w':=by
 have H0:Hid (TickIn w):=hk
 clear hk
 go_enter Tryd.func28,Tryd.ntmps28
 go_wp2_with (go_at_call 58;refine (isIns_yes _ 18 a b (by decide) (by decide)).mono ?_;rintro r w1 ⟨rfl,hb1⟩;have H1:Hid (Below w.heap.size w w1):=below_seq (below_new _ _) hb1;have c0:w1.cell? ⟨w.heap.size,0,none⟩=some (.int .i64 18):=below_cell hb1 (by go_simp);have c1:w1.cell? ⟨w.heap.size,1,none⟩=some (.int .i64 a):=below_cell hb1 (by go_simp);have c2:w1.cell? ⟨w.heap.size,2,none⟩=some (.int .i64 b):=below_cell hb1 (by go_simp);have k:w1.cell? ⟨1,113,none⟩=some (.int .i64 0):=below_cell H1.out (H0.out 18 (by decide) (by decide));clear hb1)
 go_ret
 exact ⟨rfl,H1.out⟩
theorem eighteen {op:Int} (h1:1≤op) (h2:op≤18):op=1∨op=2∨op=3∨op=4∨op=5∨op=6∨op=7∨op=8∨op=9∨op=10∨op=11∨op=12∨op=13∨op=14∨op=15∨op=16∨op=17∨op=18:=by omega
theorem cost_any (w:World) (x:In) (o:Bool) (hk:KindsIn w) (hf:formErr x=0):Calls Tryd.prog 28 #[x.val,.bool o] w fun r w'=>r = .returned (.int .i64 (costI x o))∧Below w.heap.size w w':=by
 obtain ⟨h1,h2,-⟩:=form_op hf
 obtain ⟨op,a,b⟩:=x
 show Calls Tryd.prog 28 #[.agg #[.int .i64 op,.int .i64 a,.int .i64 b],.bool o] w _
 have ht:=hk.tick
 rcases eighteen h1 h2 with e | e | e | e | e | e | e | e | e | e | e | e | e | e | e | e | e | e <;> dsimp only at e <;> subst e
 ·exact Cost_1 w ht a b o
 ·exact Cost_2 w ht a b o
 ·exact Cost_3 w ht a b o
 ·exact Cost_4 w ht a b o
 ·exact Cost_5 w ht a b o
 ·exact Cost_6 w ht a b o
 ·exact Cost_7 w ht a b o
 ·exact Cost_8 w ht a b o
 ·exact Cost_9 w ht a b o
 ·exact Cost_10 w ht a b o
 ·exact Cost_11 w ht a b o
 ·cases o
  ·exact Cost_12 w ht a b false
  ·exact Cost_12 w ht a b true
 ·exact Cost_13 w ht a b o
 ·cases o
  ·exact Cost_14 w ht a b false
  ·exact Cost_14 w ht a b true
 ·exact Cost_15 w ht a b o
 ·exact Cost_16 w ht a b o
 ·exact Cost_17 w ht a b o
 ·exact Cost_18 w ht a b o
end Go.Proofs.YtnkgbkkakokciacDoor
