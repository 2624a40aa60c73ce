import Derived.Test.YtcgncdpohaoejafDoorAQ
import Derived.Deep.CutRange
import Derived.Deep.CutBlock
namespace Go.Proofs.YtcgncdpohaoejafDoor
open Go.ChangeShapes Go.WideShapes Go.ChangeAt Go.RowKit

set_option maxRecDepth 20000 in
theorem Deadlines_bad (w : World) (l : List Ta) (v : Value) (hX : (chkF l).1 ≠ 0) (hv : RowSl Ta.vals w l v) :
    Calls Tryd.prog 12 #[v] w fun r w' => r = .returned (.tuple #[.slice none 0 0, .agg #[.int .i64 (chkF l).1, .int .i64 (chkF l).2]]) ∧ Below w.heap.size w w' := by
  have HR := rankedD_bad (w.alloc (.cells #[.int .i64 0, .int .i64 0] 26)) l v hX (hv.below (below_new _ _))
  obtain ⟨ad, c, rfl⟩ := hv.len
  have HF : Hid (FB w (w.alloc (.cells #[.int .i64 0, .int .i64 0] 26)) w.heap.size) := FB.start w
  clear hv hX
  go_enter Tryd.func12, Tryd.ntmps12
  go_wp2_with (go_at_call 18; refine HR.mono ?_; rintro r w1 ⟨rfl, hb1⟩; have H1 : Hid (FB w w1 w.heap.size) := HF.out.grow hb1; obtain ⟨rs1, rf1, rl1⟩ := cells_of (l := [_, _]) H1.out.res; have r10 := rs1 0 _ rfl; have r11 := rs1 1 _ rfl; have f10 := rf1 0; have f11 := rf1 1; clear rs1 rf1; clear hb1 HR)
  refine bodyPost_ret (Dead_ends (g := w.heap.size) (set_two H1.out.res) rfl rfl) rfl ?_
  exact ⟨rfl, H1.out.set _ _⟩

set_option maxRecDepth 20000 in
theorem Rates_bad (w : World) (l : List Ta) (v : Value) (hX : (chkF l).1 ≠ 0) (hv : RowSl Ta.vals w l v) :
    Calls Tryd.prog 4 #[v] w fun r w' => r = .returned (.tuple #[.slice none 0 0, .agg #[.int .i64 (chkF l).1, .int .i64 (chkF l).2]]) ∧ Below w.heap.size w w' := by
  have HR := rankedR_bad (w.alloc (.cells #[.int .i64 0, .int .i64 0] 26)) l v hX (hv.below (below_new _ _))
  obtain ⟨ad, c, rfl⟩ := hv.len
  have HF : Hid (FB w (w.alloc (.cells #[.int .i64 0, .int .i64 0] 26)) w.heap.size) := FB.start w
  clear hv hX
  go_enter Tryd.func4, Tryd.ntmps4
  go_wp2_with (go_at_call 18; refine HR.mono ?_; rintro r w1 ⟨rfl, hb1⟩; have H1 : Hid (FB w w1 w.heap.size) := HF.out.grow hb1; obtain ⟨rs1, rf1, rl1⟩ := cells_of (l := [_, _]) H1.out.res; have r10 := rs1 0 _ rfl; have r11 := rs1 1 _ rfl; have f10 := rf1 0; have f11 := rf1 1; clear rs1 rf1; clear hb1 HR)
  refine bodyPost_ret (DeadR_ends (g := w.heap.size) (set_two H1.out.res) rfl rfl) rfl ?_
  exact ⟨rfl, H1.out.set _ _⟩

set_option maxRecDepth 20000 in
set_option maxHeartbeats 4000000 in
theorem Assign_blocks (w : World) (l : List Ta) (bs : List Int) (v vb : Value) (hX : (chkX l).1 = 0) (hbl : bs.length ≤ 1000000) (hb : bs.length ≠ l.length ∨ 0 ≤ idxI (fun n => !isTm n) bs 0) (hv : RowSl Ta.vals w l v) (hvb : RowSl nuV w bs vb) :
    Calls Tryd.prog 14 #[v, vb] w fun r w' => r = .returned (.tuple #[.slice none 0 0, .agg #[.int .i64 2, .int .i64 0]]) ∧ Below w.heap.size w w' := by
  obtain ⟨-, -, hl1, h8, hst, hX0⟩ := chkX_ok hX
  obtain ⟨ad, c, rfl⟩ := hv.len
  obtain ⟨ad2, c2, rfl⟩ := hvb.len
  have hb0 : Below w.heap.size w (((w.alloc (.cells #[.slice ad l.length c] 22)).alloc (.cells #[.slice ad2 bs.length c2] 23)).alloc (.cells #[.int .i64 0, .int .i64 0] 26)) := below_seq (below_seq (below_new _ _) (below_new _ _)) (below_new _ _)
  have HC := check_any (((w.alloc (.cells #[.slice ad l.length c] 22)).alloc (.cells #[.slice ad2 bs.length c2] 23)).alloc (.cells #[.int .i64 0, .int .i64 0] 26)) l _ (by omega) (hv.below hb0)
  rw [hX0] at HC
  dsimp only at HC
  have H0 : Hid (FB w (((w.alloc (.cells #[.slice ad l.length c] 22)).alloc (.cells #[.slice ad2 bs.length c2] 23)).alloc (.cells #[.int .i64 0, .int .i64 0] 26)) (w.heap.size + 1 + 1) ∧ (((w.alloc (.cells #[.slice ad l.length c] 22)).alloc (.cells #[.slice ad2 bs.length c2] 23)).alloc (.cells #[.int .i64 0, .int .i64 0] 26)).heap[w.heap.size]? = some (.cells #[.slice ad l.length c] 22 (0, 0)) ∧ (((w.alloc (.cells #[.slice ad l.length c] 22)).alloc (.cells #[.slice ad2 bs.length c2] 23)).alloc (.cells #[.int .i64 0, .int .i64 0] 26)).heap[w.heap.size + 1]? = some (.cells #[.slice ad2 bs.length c2] 23 (0, 0))) := by
    refine ⟨⟨hb0, heap_new3 _ _ _ _, by omega⟩, ?_, ?_⟩
    · exact (Below.heap_alloc _ _ _ (by simp; omega)).trans ((Below.heap_alloc _ _ _ (by simp)).trans (heap_alloc_new _ _))
    · exact (Below.heap_alloc _ _ _ (by simp)).trans (heap_new2 _ _ _)
  have HV : Hid (RowSl nuV w bs (.slice ad2 bs.length c2)) := hvb
  clear hv hvb hst hX hX0 hl1 hb0
  go_enter Tryd.func14, Tryd.ntmps14
  go_upto_region 5 with (go_at_call 22; refine HC.mono ?_; rintro r w1 ⟨rfl, hb1⟩; have H1 : Hid (FB w (w1.alloc (.cells #[.int .i64 0, .int .i64 0] 26)) (w.heap.size + 1 + 1) ∧ (w1.alloc (.cells #[.int .i64 0, .int .i64 0] 26)).heap[w.heap.size]? = some (.cells #[.slice ad l.length c] 22 (0, 0)) ∧ (w1.alloc (.cells #[.int .i64 0, .int .i64 0] 26)).heap[w.heap.size + 1]? = some (.cells #[.slice ad2 bs.length c2] 23 (0, 0))) := ⟨(H0.out.1.grow hb1).grow (below_new _ _), ((below_seq hb1 (below_new w1 (.cells #[.int .i64 0, .int .i64 0] 26))).block _ (lt_heap H0.out.2.1)).trans H0.out.2.1, ((below_seq hb1 (below_new w1 (.cells #[.int .i64 0, .int .i64 0] 26))).block _ (lt_heap H0.out.2.2)).trans H0.out.2.2⟩; clear hb1 HC H0)
  generalize w1.alloc (.cells #[.int .i64 0, .int .i64 0] 26) = wA at *
  have q1 := (cells_of (l := [_]) H1.out.2.1).1 0 _ rfl
  have q2 := (cells_of (l := [_]) H1.out.2.2).1 0 _ rfl
  have HB := hasBad_any wA bs _ hbl (HV.out.below H1.out.1.bel)
  by_cases hne : bs.length = l.length
  · have hbad : decide (0 ≤ idxI (fun n => !isTm n) bs 0) = true := by
      rcases hb with h | h
      · exact absurd hne h
      · simpa using h
    rw [hbad] at HB
    rw [hne] at HB q2 ⊢
    clear hb hbad hne hbl
    go_wp2_with (go_at_call 26; refine HB.mono ?_; rintro r w2 ⟨rfl, hb2⟩; have H2 : Hid (FB w w2 (w.heap.size + 1 + 1)) := H1.out.1.grow hb2; obtain ⟨rs1, rf1, rl1⟩ := cells_of (l := [_, _]) H2.out.res; have r10 := rs1 0 _ rfl; have r11 := rs1 1 _ rfl; have f10 := rf1 0; have f11 := rf1 1; clear rs1 rf1; clear hb2 HB H1 q1 q2)
    refine bodyPost_ret (Assign_ends (g := w.heap.size + 1 + 1) (c := .int .i64 2) (k := .int .i64 0) (set_two H2.out.res) rfl rfl) rfl ?_
    exact ⟨rfl, H2.out.set _ _⟩
  · have hne' : ((bs.length : Int) != (l.length : Int)) = true := by simp; omega
    have hne2 : ¬ (bs.length : Int) = (l.length : Int) := by omega
    obtain ⟨rs1, rf1, rl1⟩ := cells_of (l := [_, _]) H1.out.1.res
    have r10 := rs1 0 _ rfl
    have r11 := rs1 1 _ rfl
    have f10 := rf1 0
    have f11 := rf1 1
    clear rs1 rf1 HB hb
    go_wp2_with fail
    refine bodyPost_ret (Assign_ends (g := w.heap.size + 1 + 1) (c := .int .i64 2) (k := .int .i64 0) (set_two H1.out.1.res) rfl rfl) rfl ?_
    exact ⟨rfl, H1.out.1.set _ _⟩

end Go.Proofs.YtcgncdpohaoejafDoor
