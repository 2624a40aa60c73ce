import Derived.Test.YtcgncdpohaoejafDoorAR
import Derived.Deep.CutRange
import Derived.Deep.CutBlock
namespace Go.Proofs.YtcgncdpohaoejafDoor
open Go.ChangeShapes Go.WideShapes Go.ChangeAt Go.RowKit

set_option maxRecDepth 20000 in
set_option maxHeartbeats 4000000 in
theorem rankedD_bad (w : World) (l : List Ta) (v : Value) (hX : (chkF l).1 ≠ 0) (hv : RowSl Ta.vals w l v) :
    Calls Tryd.prog 18 #[v, .func (Fn.func 21) #[] #[]] w fun r w' => r = .returned (.tuple #[.slice none 0 0, .agg #[.int .i64 (chkF l).1, .int .i64 (chkF l).2]]) ∧ Below w.heap.size w w' := by
  obtain ⟨ad, c, rfl⟩ := hv.len
  have hb0 : Below w.heap.size w (((w.alloc (.cells #[.slice ad l.length c] 22)).alloc (.cells #[.func (Fn.func 21) #[] #[]] 35)).alloc (.cells #[.int .i64 0, .int .i64 0] 26)) := below_seq (below_seq (below_new _ _) (below_new _ _)) (below_new _ _)
  have HC := Check_any (((w.alloc (.cells #[.slice ad l.length c] 22)).alloc (.cells #[.func (Fn.func 21) #[] #[]] 35)).alloc (.cells #[.int .i64 0, .int .i64 0] 26)) l _ (hv.below hb0)
  have H0 : Hid (FB w (((w.alloc (.cells #[.slice ad l.length c] 22)).alloc (.cells #[.func (Fn.func 21) #[] #[]] 35)).alloc (.cells #[.int .i64 0, .int .i64 0] 26)) (w.heap.size + 1 + 1)) := ⟨hb0, heap_new3 _ _ _ _, by omega⟩
  clear hv hb0
  generalize (chkF l).1 = z1 at *
  generalize (chkF l).2 = z2 at *
  have hz : (z1 != 0) = true := by simpa using hX
  clear hX
  go_enter Tryd.func18, Tryd.ntmps18
  go_upto_region 3 with (go_at_call 38; refine HC.mono ?_; rintro r w1 ⟨rfl, hb1⟩; have H1 : Hid (FB w (w1.alloc (.cells #[.int .i64 z1, .int .i64 z2] 26)) (w.heap.size + 1 + 1)) := (H0.out.grow hb1).grow (below_new _ _); have hl1 : w.heap.size + 1 + 1 < w1.heap.size := (H0.out.grow hb1).lt; clear hb1 HC H0)
  obtain ⟨fs, -, fl⟩ := cells_of (l := [_, _]) (heap_alloc_new w1 (.cells #[.int .i64 z1, .int .i64 z2] 26))
  have g0 := fs 0 _ rfl
  have g1 := fs 1 _ rfl
  clear fs
  generalize w1.alloc (.cells #[.int .i64 z1, .int .i64 z2] 26) = w2 at *
  obtain ⟨rs1, rf1, rl1⟩ := cells_of (l := [_, _]) H1.out.res
  have r10 := rs1 0 _ rfl
  have r11 := rs1 1 _ rfl
  have f10 := rf1 0
  have f11 := rf1 1
  clear rs1 rf1
  go_region
  all_goals go_wp2_with fail
  all_goals
    refine bodyPost_ret (ranked_ends (g := w.heap.size + 1 + 1) (c := .int .i64 z1) (k := .int .i64 z2) (set_two H1.out.res) rfl rfl) rfl ?_
    exact ⟨rfl, (H1.out.set _ _).drew⟩

set_option maxRecDepth 20000 in
set_option maxHeartbeats 4000000 in
theorem rankedR_bad (w : World) (l : List Ta) (v : Value) (hX : (chkF l).1 ≠ 0) (hv : RowSl Ta.vals w l v) :
    Calls Tryd.prog 18 #[v, .func (Fn.func 19) #[] #[]] w fun r w' => r = .returned (.tuple #[.slice none 0 0, .agg #[.int .i64 (chkF l).1, .int .i64 (chkF l).2]]) ∧ Below w.heap.size w w' := by
  obtain ⟨ad, c, rfl⟩ := hv.len
  have hb0 : Below w.heap.size w (((w.alloc (.cells #[.slice ad l.length c] 22)).alloc (.cells #[.func (Fn.func 19) #[] #[]] 35)).alloc (.cells #[.int .i64 0, .int .i64 0] 26)) := below_seq (below_seq (below_new _ _) (below_new _ _)) (below_new _ _)
  have HC := Check_any (((w.alloc (.cells #[.slice ad l.length c] 22)).alloc (.cells #[.func (Fn.func 19) #[] #[]] 35)).alloc (.cells #[.int .i64 0, .int .i64 0] 26)) l _ (hv.below hb0)
  have H0 : Hid (FB w (((w.alloc (.cells #[.slice ad l.length c] 22)).alloc (.cells #[.func (Fn.func 19) #[] #[]] 35)).alloc (.cells #[.int .i64 0, .int .i64 0] 26)) (w.heap.size + 1 + 1)) := ⟨hb0, heap_new3 _ _ _ _, by omega⟩
  clear hv hb0
  generalize (chkF l).1 = z1 at *
  generalize (chkF l).2 = z2 at *
  have hz : (z1 != 0) = true := by simpa using hX
  clear hX
  go_enter Tryd.func18, Tryd.ntmps18
  go_upto_region 3 with (go_at_call 38; refine HC.mono ?_; rintro r w1 ⟨rfl, hb1⟩; have H1 : Hid (FB w (w1.alloc (.cells #[.int .i64 z1, .int .i64 z2] 26)) (w.heap.size + 1 + 1)) := (H0.out.grow hb1).grow (below_new _ _); have hl1 : w.heap.size + 1 + 1 < w1.heap.size := (H0.out.grow hb1).lt; clear hb1 HC H0)
  obtain ⟨fs, -, fl⟩ := cells_of (l := [_, _]) (heap_alloc_new w1 (.cells #[.int .i64 z1, .int .i64 z2] 26))
  have g0 := fs 0 _ rfl
  have g1 := fs 1 _ rfl
  clear fs
  generalize w1.alloc (.cells #[.int .i64 z1, .int .i64 z2] 26) = w2 at *
  obtain ⟨rs1, rf1, rl1⟩ := cells_of (l := [_, _]) H1.out.res
  have r10 := rs1 0 _ rfl
  have r11 := rs1 1 _ rfl
  have f10 := rf1 0
  have f11 := rf1 1
  clear rs1 rf1
  go_region
  all_goals go_wp2_with fail
  all_goals
    refine bodyPost_ret (ranked_ends (g := w.heap.size + 1 + 1) (c := .int .i64 z1) (k := .int .i64 z2) (set_two H1.out.res) rfl rfl) rfl ?_
    exact ⟨rfl, (H1.out.set _ _).drew⟩

set_option maxRecDepth 20000 in
set_option maxHeartbeats 4000000 in
theorem Assign_bad (w : World) (l : List Ta) (v vb : Value)  (bs : List Int) (hvb : RowSl nuV w bs vb) (hl : l.length ≤ 1000000) (hX : (chkX l).1 ≠ 0) (hv : RowSl Ta.vals w l v) :
    Calls Tryd.prog 14 #[v, vb] w fun r w' => r = .returned (.tuple #[.slice none 0 0, .agg #[.int .i64 (chkX l).1, .int .i64 (chkX l).2]]) ∧ Below w.heap.size w w' := by
  obtain ⟨ad, c, rfl⟩ := hv.len
  obtain ⟨ad2, c2, rfl⟩ := hvb.len
  have hb0 : Below w.heap.size w (((w.alloc (.cells #[.slice ad l.length c] 22)).alloc (.cells #[.slice ad2 bs.length c2] 23)).alloc (.cells #[.int .i64 0, .int .i64 0] 26)) := below_seq (below_seq (below_new _ _) (below_new _ _)) (below_new _ _)
  have HC := check_any (((w.alloc (.cells #[.slice ad l.length c] 22)).alloc (.cells #[.slice ad2 bs.length c2] 23)).alloc (.cells #[.int .i64 0, .int .i64 0] 26)) l _ hl (hv.below hb0)
  have H0 : Hid (FB w (((w.alloc (.cells #[.slice ad l.length c] 22)).alloc (.cells #[.slice ad2 bs.length c2] 23)).alloc (.cells #[.int .i64 0, .int .i64 0] 26)) (w.heap.size + 1 + 1)) := ⟨hb0, heap_new3 _ _ _ _, by omega⟩
  clear hv hvb hb0
  generalize (chkX l).1 = z1 at *
  generalize (chkX l).2 = z2 at *
  have hz : (z1 != 0) = true := by simpa using hX
  clear hX
  go_enter Tryd.func14, Tryd.ntmps14
  go_upto_region 3 with (go_at_call 22; refine HC.mono ?_; rintro r w1 ⟨rfl, hb1⟩; have H1 : Hid (FB w (w1.alloc (.cells #[.int .i64 z1, .int .i64 z2] 26)) (w.heap.size + 1 + 1)) := (H0.out.grow hb1).grow (below_new _ _); have hl1 : w.heap.size + 1 + 1 < w1.heap.size := (H0.out.grow hb1).lt; clear hb1 HC H0)
  obtain ⟨fs, -, fl⟩ := cells_of (l := [_, _]) (heap_alloc_new w1 (.cells #[.int .i64 z1, .int .i64 z2] 26))
  have g0 := fs 0 _ rfl
  have g1 := fs 1 _ rfl
  clear fs
  generalize w1.alloc (.cells #[.int .i64 z1, .int .i64 z2] 26) = w2 at *
  obtain ⟨rs1, rf1, rl1⟩ := cells_of (l := [_, _]) H1.out.res
  have r10 := rs1 0 _ rfl
  have r11 := rs1 1 _ rfl
  have f10 := rf1 0
  have f11 := rf1 1
  clear rs1 rf1
  go_region
  all_goals go_wp2_with fail
  all_goals
    refine bodyPost_ret (Assign_ends (g := w.heap.size + 1 + 1) (c := .int .i64 z1) (k := .int .i64 z2) (set_two H1.out.res) rfl rfl) rfl ?_
    exact ⟨rfl, (H1.out.set _ _).drew⟩

end Go.Proofs.YtcgncdpohaoejafDoor
