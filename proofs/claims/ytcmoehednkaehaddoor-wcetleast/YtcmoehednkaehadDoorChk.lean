import Derived.Test.YtcmoehednkaehadDoorStack
import Derived.Test.YtcmoehednkaehadDoorJumps
import Derived.Test.YtcmoehednkaehadDoorForm
import Derived.Laws.MakeOwn
namespace Go.Proofs.YtcmoehednkaehadDoor
open Go.ChangeShapes Go.WideShapes Go.ChangeAt Go.RowKit

set_option maxRecDepth 20000 in
set_option maxHeartbeats 4000000 in
/-- jumps: the look that it makes. -/
theorem jumps_any (w : World) (ad : Option Addr) (n c : Nat) : Calls Tryd.prog 66 #[.slice ad n c] w fun r w' => r = .returned (.func (Fn.func 105) #[] #[.pointer (some ⟨w.heap.size, 0, none⟩)]) ∧ w' = w.alloc (.cells #[.slice ad n c] 23) := by
  go_enter Tryd.func66, Tryd.ntmps66
  go_wp2_with fail
  go_ret
  exact ⟨rfl, rfl⟩

set_option maxRecDepth 20000 in
set_option maxHeartbeats 4000000 in
/-- stack: the look that it makes. -/
theorem stack_any (w : World) (mb : Nat) : Calls Tryd.prog 67 #[.map (some mb)] w fun r w' => r = .returned (.func (Fn.func 106) #[] #[.pointer (some ⟨w.heap.size, 0, none⟩)]) ∧ w' = w.alloc (.cells #[.map (some mb)] 122) := by
  go_enter Tryd.func67, Tryd.ntmps67
  go_wp2_with fail
  go_ret
  exact ⟨rfl, rfl⟩

theorem made_zeros (n : Nat) : madeCells (Value.int .i64 0).cells n = (intVs (List.replicate n 0)).toArray := by
  unfold madeCells intVs
  apply Array.ext
  · simp
  · intro i h1 h2
    have e : i % 1 = 0 := Nat.mod_one i
    simp [Value.cells, e]

theorem make_zeros (n : Nat) (hn : n ≤ 4194304) (W : World) : (Instr.makeSlice 23 (.int .i64 (n : Int)) (.int .i64 (n : Int))).run Tryd.prog W = .ok (.slice (some ⟨W.heap.size, 0, none⟩) n n) (W.alloc (.cells (intVs (List.replicate n 0)).toArray 3)) := by
  obtain ⟨i0, hi0, hz0, hz1, hz2⟩ := info_parts infoI
  have h := run_make (P := Tryd.prog) W 23 3 i0 _ Tryd.underlying23 hi0 hz0 .i64 .i64 (n : Int) (n : Int) (by omega) (Int.le_refl _) (by rw [hz2]; omega) (by omega)
  rw [hz1, Nat.mul_one, Int.toNat_natCast, made_zeros] at h
  exact h

set_option maxRecDepth 20000 in
set_option maxHeartbeats 4000000 in
theorem Check_many (w : World) (n : Nat) (iad : Option Addr) (ic : Nat) (hl : 2000 < n) : Calls Tryd.prog 32 #[.slice iad n ic] w fun r w' => r = .returned (.agg #[.int .i64 2, .int .i64 0]) ∧ Below w.heap.size w w' := by
  have hg : (2000 : Int) < (n : Int) := by omega
  go_enter Tryd.func32, Tryd.ntmps32
  go_wp2_with fail
  exact bodyPost_ret (v := .agg #[.int .i64 2, .int .i64 0]) (by simp [results, Tryd.results32, go_sem]) rfl ⟨rfl, below_new _ _⟩

/-- Where the looks begin. -/
theorem check_start (w : World) (l : List In) (iad : Option Addr) (ic : Nat) (h : InSl w l (.slice iad l.length ic)) :
    ∃ w5, (Instr.mapUpdate 122 (.map (some (w.heap.size + 1 + 1 + 1))) (.int .i64 0) (.int .i64 0)).run Tryd.prog ((((w.alloc (.cells #[.int .i64 0, .int .i64 0] 37)).alloc (.cells (intVs (List.replicate (l.length + 1) 0)).toArray 3)).alloc (.cells #[.slice iad l.length ic, .slice none 0 0, .slice (some ⟨w.heap.size + 1, 0, none⟩) (l.length + 1) (l.length + 1)] 121)).alloc (.map #[] 0)) = .ok () w5 ∧ Hid (NS w w5 w5 (w.heap.size + 1 + 1) (w.heap.size + 1) (w.heap.size + 4) l (.slice iad l.length ic) [] (.slice none 0 0) (List.replicate (l.length + 1) 0) ∧ HtAt w5 (w.heap.size + 1 + 1 + 1) 1 (setH (fun _ => none) 0 0) ∧ w5.heap[w.heap.size]? = some (Obj.cells #[.int .i64 0, .int .i64 0] 37 (0, 0))) := by
  obtain ⟨w5, hrun, hset, hg5⟩ := (HtAt.made (((w.alloc (.cells #[.int .i64 0, .int .i64 0] 37)).alloc (.cells (intVs (List.replicate (l.length + 1) 0)).toArray 3)).alloc (.cells #[.slice iad l.length ic, .slice none 0 0, .slice (some ⟨w.heap.size + 1, 0, none⟩) (l.length + 1) (l.length + 1)] 121))).set (by omega) (z := 0) (v := 0) (by omega) (by omega)
  rw [show (((w.alloc (.cells #[.int .i64 0, .int .i64 0] 37)).alloc (.cells (intVs (List.replicate (l.length + 1) 0)).toArray 3)).alloc (.cells #[.slice iad l.length ic, .slice none 0 0, .slice (some ⟨w.heap.size + 1, 0, none⟩) (l.length + 1) (l.length + 1)] 121)).heap.size = w.heap.size + 1 + 1 + 1 by simp] at hrun hset hg5
  have hs5 := hg5.size
  simp at hs5
  have b2 : w5.heap[w.heap.size + 1 + 1]? = some (Obj.cells #[.slice iad l.length ic, .slice none 0 0, .slice (some ⟨w.heap.size + 1, 0, none⟩) (l.length + 1) (l.length + 1)] 121 (0, 0)) := by
    rw [hg5.block _ (by first | (simp; done) | (simp; omega)) (by first | (simp; done) | (simp; omega)), Below.heap_alloc _ _ _ (by simp)]
    have := heap_alloc_new ((w.alloc (.cells #[.int .i64 0, .int .i64 0] 37)).alloc (.cells (intVs (List.replicate (l.length + 1) 0)).toArray 3)) (.cells #[.slice iad l.length ic, .slice none 0 0, .slice (some ⟨w.heap.size + 1, 0, none⟩) (l.length + 1) (l.length + 1)] 121)
    simpa using this
  have b1 : w5.heap[w.heap.size + 1]? = some (Obj.cells (intVs (List.replicate (l.length + 1) 0)).toArray 3 (0, 0)) := by
    rw [hg5.block _ (by first | (simp; done) | (simp; omega)) (by first | (simp; done) | (simp; omega)), Below.heap_alloc _ _ _ (by first | (simp; done) | (simp; omega)), Below.heap_alloc _ _ _ (by simp)]
    have := heap_alloc_new (w.alloc (.cells #[.int .i64 0, .int .i64 0] 37)) (.cells (intVs (List.replicate (l.length + 1) 0)).toArray 3)
    simpa using this
  have b0 : w5.heap[w.heap.size]? = some (Obj.cells #[.int .i64 0, .int .i64 0] 37 (0, 0)) := by
    rw [hg5.block _ (by first | (simp; done) | (simp; omega)) (by first | (simp; done) | (simp; omega)), Below.heap_alloc _ _ _ (by first | (simp; done) | (simp; omega)), Below.heap_alloc _ _ _ (by first | (simp; done) | (simp; omega)), Below.heap_alloc _ _ _ (by simp)]
    exact heap_alloc_new _ _
  have hbw : Below w.heap.size w w5 := ((((below_new w _).alloc (by simp) _).alloc (by simp; omega) _).alloc (by simp; omega) _).grown hg5 (by simp; omega) (by intro j hj; simp at hj; omega)
  have HN : Hid (NS w w5 w5 (w.heap.size + 1 + 1) (w.heap.size + 1) (w.heap.size + 4) l (.slice iad l.length ic) [] (.slice none 0 0) (List.replicate (l.length + 1) 0) ∧ HtAt w5 (w.heap.size + 1 + 1 + 1) 1 (setH (fun _ => none) 0 0) ∧ w5.heap[w.heap.size]? = some (Obj.cells #[.int .i64 0, .int .i64 0] 37 (0, 0))) := ⟨⟨b2, h, hbw, World.ownsRow_nil _ _ _ _, b1, by simp, (by simp), ⟨⟨by omega, by omega⟩, by omega, by omega, by omega⟩, by omega, fun _ _ _ _ => rfl⟩, hset, b0⟩
  exact ⟨w5, hrun, HN⟩
end Go.Proofs.YtcmoehednkaehadDoor
