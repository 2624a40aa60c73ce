import Derived.Test.YtkafihaajpifoagDoorLB
namespace Go.Proofs.YtkafihaajpifoagDoor
open Go.ChangeShapes Go.WideShapes Go.ChangeAt Go.RowKit

set_option maxRecDepth 20000 in
theorem within_any (w : World) (n a b : Int) : Calls Tryd.prog 42 #[.int .i64 n, .int .i64 a, .int .i64 b] w fun r w' => r = .returned (.bool (within n a b)) ∧ w' = w := by
  go_enter Tryd.func42, Tryd.ntmps42
  go_wp2_with fail
  all_goals
    go_ret
    refine ⟨?_, rfl⟩
    show Ending.returned (Value.bool _) = _
    congr 2
    unfold within
    first | (simp; done) | (simp; omega)

set_option maxRecDepth 20000 in
theorem few_any (w : World) (n : Int) : Calls Tryd.prog 7 #[.int .i64 n] w fun r w' => r = .returned (.bool (decide (n ≤ 5000))) ∧ w' = w := by
  go_enter Tryd.func7, Tryd.ntmps7
  go_wp2_with fail
  go_ret
  exact ⟨rfl, rfl⟩

theorem F_ends {w : World} {g : Nat} {c k : Value} {a : Act} (h : w.heap[g]? = some (.cells #[c, k] 25 (0, 0))) (h3 : a.tmps[4]?.getD undef = .pointer (some ⟨g, 0, none⟩)) :
    (results Tryd.f6 a.tmps).run Tryd.prog w = .ok (.agg #[c, k]) w := by
  obtain ⟨c1, f1, l1⟩ := cells_of (l := [_, _]) h
  have c10 := c1 0 _ rfl
  have c11 := c1 1 _ rfl
  simp [results, Tryd.results6, go_sem, h3, c10, c11]

set_option maxRecDepth 20000 in
theorem F_any (w : World) (a b : Int) : Calls Tryd.prog 6 #[.int .i64 a, .int .i64 b] w fun r w' => r = .returned (.agg #[.int .i64 a, .int .i64 b]) ∧ Below w.heap.size w w' := by
  go_enter Tryd.func6, Tryd.ntmps6
  go_wp2_with fail
  refine bodyPost_ret (F_ends (heap_alloc_new _ _) rfl) rfl ?_
  exact ⟨rfl, below_new _ _⟩

/- Which is the first. -/
def idxI (z : Int) : List Int → Nat → Int
  | [], _ => -1
  | x :: r, i => if z = x then (i : Int) else idxI z r (i + 1)

theorem idxI_mem (z : Int) : ∀ (l : List Int) (k : Nat), decide (0 ≤ idxI z l k) = decide (z ∈ l)
  | [], k => by simp [idxI]
  | y :: r, k => by
    by_cases h : z = y
    · simp [idxI, h]
    · simp [idxI, h, idxI_mem z r (k + 1)]

set_option maxRecDepth 20000 in
set_option maxHeartbeats 2000000 in
theorem index_any (w : World) (xs : List Int) (v : Value) (z : Int) (hl : xs.length ≤ 1000000) (hv : RowSl nuV w xs v) :
    Calls Tryd.prog 57 #[v, .int .i64 z] w fun r w' => r = .returned (.int .i64 (idxI z xs 0)) ∧ Below w.heap.size w w' := by
  obtain ⟨ad, c, rfl, -, hcap, hrow⟩ := hv
  have HR : Hid (xs = [] ∨ ∃ b o, ad = some ⟨b, o, none⟩ ∧ ∀ q u, (xs.flatMap nuV)[q]? = some u → w.cell? ⟨b, o + q, none⟩ = some u) := hrow
  clear hrow
  go_enter Tryd.func57, Tryd.ntmps57
  go_wp2_with fail
  go_loopw [8] (fun i wr => ∃ j : Nat, j ≤ xs.length ∧ i = .int .i64 j ∧ Below w.heap.size w wr ∧ idxI z (xs.drop j) j = idxI z xs 0) (fun i _ => xs.length - (intOf i).toNat)
  case atStart => exact ⟨0, Nat.zero_le _, rfl, Below.refl _ _, rfl⟩
  case round =>
    obtain ⟨j, hj, rfl, hg, hac⟩ := hrel
    have HG : Hid (Below w.heap.size w wr) := hg
    by_cases hjl : j < xs.length
    · obtain ⟨x, hx, hd⟩ := drop_at hjl
      rcases HR.out with h | ⟨gb, go, rfl, hr1⟩
      · rw [h] at hjl; simp at hjl
      have y0 := nu_at (fun q u hq => below_cell hg (hr1 q u hq)) hx
      have hji : (j : Int) < (xs.length : Int) := by omega
      rw [hd, idxI] at hac
      by_cases hp : z = x
      · rw [if_pos hp] at hac
        have HE : Hid ((j : Int) = idxI z xs 0) := hac
        clear hac hd hr1 hx hg
        subst hp
        go_wp2_with fail
        all_goals try go_quiet (fail)
        all_goals try go_wp2_with fail
        go_ret
        rw [← HE.out]
        first | exact ⟨rfl, HG.out⟩ | exact ⟨rfl, below_seq HG.out below_drewN'⟩
      · rw [if_neg hp] at hac
        have HE : Hid (idxI z (xs.drop (j + 1)) (j + 1) = idxI z xs 0) := hac
        clear hac hd hr1 hx hg
        go_wp2_with fail
        all_goals try go_quiet (fail)
        all_goals try go_wp2_with fail
        first
          | exact ⟨⟨j + 1, by omega, by simp, HG.out, HE.out⟩, by simp [intOf]; omega⟩
          | exact ⟨⟨j + 1, by omega, by simp, below_seq HG.out below_drewN', HE.out⟩, by simp [intOf]; omega⟩
    · have hje : j = xs.length := by omega
      subst hje
      have HE : Hid ((-1 : Int) = idxI z xs 0) := by rw [List.drop_length] at hac; exact hac
      clear hac hg
      go_wp2_with fail
      go_ret
      rw [← HE.out]
      exact ⟨rfl, HG.out⟩

set_option maxRecDepth 20000 in
theorem contains_any (w : World) (xs : List Int) (v : Value) (z : Int) (hl : xs.length ≤ 1000000) (hv : RowSl nuV w xs v) :
    Calls Tryd.prog 44 #[v, .int .i64 z] w fun r w' => r = .returned (.bool (decide (z ∈ xs))) ∧ Below w.heap.size w w' := by
  rw [← idxI_mem z xs 0]
  have HI := index_any w xs v z hl hv
  obtain ⟨ad, c, rfl, -⟩ := hv
  go_enter Tryd.func44, Tryd.ntmps44
  go_wp2_with (go_at_call 57; refine HI.mono ?_; rintro r w1 ⟨rfl, hb1⟩)
  go_ret
  exact ⟨rfl, hb1⟩
end Go.Proofs.YtkafihaajpifoagDoor
